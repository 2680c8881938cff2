/-
  Contract of package frame's Right. Conditions: bounds.
-/
import Derived.Test.YtpijfghklgmefaaDoorFrg
namespace Go.Proofs.YtpijfghklgmefaaDoor
open Go.RowKit Go.Proofs
set_option linter.unusedVariables false
set_option maxRecDepth 20000
set_option maxHeartbeats 1600000

theorem leaves_any (v : CvF) (w : World) (h : v.Ok w) : Calls Tryd.prog 23 #[.agg v.vals.toArray] w fun e w' => e = .returned (.bool (okC v.x)) ∧ Below w.heap.size w w' := by
  cases hd : v.x.dead
  · exact leaves_alive v hd w h
  · exact leaves_dead v hd w
/-- A record in a variable. -/
def ReB (w : World) (B : Nat) (st : Nat) (A : Option Addr) (n c : Nat) : Prop := w.heap[B]? = some (.cells #[.int .u64 (st : Int), .slice A n c] 25 (0, 0))
section
variable {w w' : World} {B st n c : Nat} {A : Option Addr}
theorem ReB.c0 (h : ReB w B st A n c) : w.cell? ⟨B, 0, none⟩ = some (.int .u64 (st : Int)) := by rw [cell_of_row _ _ _ _ _ _ h]; rfl
theorem ReB.c1 (h : ReB w B st A n c) : w.cell? ⟨B, 1, none⟩ = some (.slice A n c) := by rw [cell_of_row _ _ _ _ _ _ h]; rfl
theorem ReB.later (h : ReB w B st A n c) (hb : Below w.heap.size w w') : ReB w' B st A n c := (hb.block _ (block_lt h)).trans h
theorem ReB.new : ReB (w.alloc (.cells #[.int .u64 (st : Int), .slice A n c] 25)) w.heap.size st A n c := heap_alloc_new w _
end
theorem okCs_drop {l : List CvF} {i : Nat} {v : CvF} (h : l[i]? = some v) (a : ByteArray) : okCs a ((l.drop i).map CvF.x) = (gtK v.x.key a && (decide (v.x.key.size ≤ 16) && (okC v.x && okCs v.x.key ((l.drop (i + 1)).map CvF.x)))) := by
  obtain ⟨hi, he⟩ := List.getElem?_eq_some_iff.1 h
  rw [List.drop_eq_getElem_cons hi, he]
  rfl
theorem range_ch {w : World} {b o i : Nat} {v : CvF} (h : ∀ (j : Nat) u, v.vals[j]? = some u → w.cell? ⟨b, o + i * 5 + j, none⟩ = some u) : w.rangeAt b (o + i * 5) v.vals := h
/-- One operation whose guard says yes, by what it answers. -/
theorem wpList_step17 {P : Program} {ops : Array Oper} {rest : List Oper} {o : Oper} {a : Act} {w : World} {Q : Exit → Act → World → Prop} (hgd : Region.wanted o (yielded ops a.tmps) = true) (v : Value) (w' : World) (hr : (execOp a.eval o).run P w = .ok (.value v) w') (hk : wpList P ops Q rest (a.put o.dst v) w') : wpList P ops Q (o :: rest) a w := by
  unfold wpList
  rw [if_pos hgd]
  left
  unfold Oper.wp
  rw [hr]
  exact hk
theorem rright17_many (st : Nat) (A : Option Addr) (n c : Nat) (hn : 16 < n) (hl : n ≤ maxLen) (w : World) : Calls Tryd.prog 10 #[.agg #[.int .u64 (st : Int), .slice A n c]] w fun e w' => e = .returned (.bool false) ∧ Below w.heap.size w w' := by
  have hb1 : Below w.heap.size w (w.alloc (.cells #[.int .u64 (st : Int), .slice A n c] 25)) := (Below.refl _ _).alloc (Nat.le_refl _) _
  have hx := ReB.new (w := w) (st := st) (A := A) (n := n) (c := c)
  have c1 := hx.c1
  unfold maxLen at hl
  have hq : (16 : Int) < (n : Int) := by omega
  have B1 := Lib.hid hb1
  clear hb1 hx
  go_enter Tryd.func10, Tryd.ntmps10
  go_wp2_with fail
  go_ret
  exact ⟨rfl, B1.out⟩
theorem rright17_few (st : Nat) (A : Option Addr) (n c : Nat) (l : List CvF) (hn : n ≤ 16) (w : World) (h : Chs w A n c l) : Calls Tryd.prog 10 #[.agg #[.int .u64 (st : Int), .slice A n c]] w fun e w' => e = .returned (.bool (okCs ⟨#[]⟩ (l.map CvF.x))) ∧ Below w.heap.size w w' := by
  have hb1 : Below w.heap.size w (w.alloc (.cells #[.int .u64 (st : Int), .slice A n c] 25)) := (Below.refl _ _).alloc (Nat.le_refl _) _
  have hx := ReB.new (w := w) (st := st) (A := A) (n := n) (c := c)
  have c1 := hx.c1
  have hq : ¬ (16 : Int) < (n : Int) := by omega
  obtain ⟨wa, hwa⟩ : ∃ x, x = w.alloc (.cells #[.int .u64 (st : Int), .slice A n c] 25) := ⟨_, rfl⟩
  have HWA := Lib.hid hwa
  rw [← hwa] at hb1 c1
  have HB := Lib.hid hb1
  have HC := Lib.hid h
  clear hb1 hx h hwa
  go_enter Tryd.func10, Tryd.ntmps10
  go_wp2_with (rw [← HWA.out])
  go_loopw [3, 13] (fun av iv wr => ∃ (i : Nat) (a : ByteArray), av = .string a ∧ iv = .int .i64 (i : Int) ∧ i ≤ n ∧ Below w.heap.size w wr ∧ okCs a ((l.drop i).map CvF.x) = okCs ⟨#[]⟩ (l.map CvF.x)) (fun _ iv _ => n - (intOf iv).toNat)
  case atStart => exact ⟨0, ⟨#[]⟩, rfl, rfl, by omega, HB.out, rfl⟩
  case round =>
    obtain ⟨i, a, rfl, rfl, hi, hbe, ho⟩ := hrel
    have BE := Lib.hid hbe
    clear hbe c1
    by_cases hlt : i < n
    · have hii : (i : Int) < (n : Int) := by omega
      obtain ⟨v, hv⟩ : ∃ v, l[i]? = some v := ⟨_, List.getElem?_eq_getElem (by rw [HC.out.len]; exact hlt)⟩
      rw [okCs_drop hv] at ho
      obtain ⟨b, o, rfl, hcl, hok⟩ := (HC.out.below BE.out).cell i v hv
      have RA := Lib.hid (range_ch hcl)
      have hb2 : Below wr.heap.size wr (wr.alloc (.cells v.vals.toArray 57)) := (Below.refl _ _).alloc (Nat.le_refl _) _
      have hx2 := CvB.new (w := wr) (v := v)
      obtain ⟨w2, hw2⟩ : ∃ x, x = wr.alloc (.cells v.vals.toArray 57) := ⟨_, rfl⟩
      have HW2 := Lib.hid hw2
      rw [← hw2] at hb2 hx2
      have c0 := hx2.c0
      have X2 := Lib.hid hx2
      have B2 := Lib.hid (BE.out.trans (hb2.mono BE.out.size))
      have hlv := leaves_any v w2 (hok.below hb2)
      have HLV := Lib.hid hlv
      have HSZ := Lib.hid (size_ch v)
      have HSL := Lib.hid (show (Tryd.prog.info? 57).map (·.size) = some v.vals.length from HSZ.out)
      have HON := Lib.hid (one_ch v)
      have HO := Lib.hid ho
      obtain ⟨y, hy⟩ : ∃ y, y = (Op.bytesLess v.x.key.toList a.toList || v.x.key.toList == a.toList) := ⟨_, rfl⟩
      have hgt : gtK v.x.key a = !y := by rw [hy]; rfl
      have HGT := Lib.hid hgt
      have hy2 := hy.symm
      clear hb2 hx2 hw2 hlv hcl hok ho hgt hy
      cases y
      · have hgk : gtK v.x.key a = true := HGT.out
        have GK := Lib.hid hgk
        clear hgk
        by_cases hk : v.x.key.size ≤ 16
        · have hk2 : ¬ (16 : Int) < (v.x.key.size : Int) := by omega
          have K1 := Lib.hid hk
          clear hk
          cases hc : okC v.x
          · have HC0 := Lib.hid hc
            rw [hc] at HLV
            clear hc
            go_wp2_with (first | (rw [← HW2.out]) | (refine at_dst17 (d := 16) ?_; refine wpList_load_mid (op := ⟨some 16, _, _, _, _, _⟩) rfl 57 (.tmp 15) rfl b (o + i * 5) rfl _ _ RA.out Tryd.underlying57 rfl HSL.out ?_) | (refine at_none17 ?_; refine wpList_store_new17 (o := ⟨none, _, _, _, _, _⟩) rfl 57 (.tmp 5) (.tmp 16) rfl wr _ v.vals.toArray 57 rfl rfl HSZ.out rfl HON.out ?_; rw [← HW2.out]) | (refine at_dst17 (d := 28) ?_; refine wpList_step17 (o := ⟨some 28, _, _, _, _, _⟩) (by rfl) _ _ (step_loadCh rfl rfl X2.out) ?_))
            refine HLV.out.mono ?_; rintro e w3 ⟨rfl, hb3⟩
            have B3 := Lib.hid (B2.out.trans (hb3.mono B2.out.size))
            clear hb3
            go_wp2_with fail
            go_ret
            refine ⟨?_, B3.out⟩
            rw [← HO.out, GK.out, HC0.out, Bool.false_and, Bool.and_false, Bool.and_false]
            rfl
          · have HC0 := Lib.hid hc
            rw [hc] at HLV
            clear hc
            go_wp2_with (first | (rw [← HW2.out]) | (refine at_dst17 (d := 16) ?_; refine wpList_load_mid (op := ⟨some 16, _, _, _, _, _⟩) rfl 57 (.tmp 15) rfl b (o + i * 5) rfl _ _ RA.out Tryd.underlying57 rfl HSL.out ?_) | (refine at_none17 ?_; refine wpList_store_new17 (o := ⟨none, _, _, _, _, _⟩) rfl 57 (.tmp 5) (.tmp 16) rfl wr _ v.vals.toArray 57 rfl rfl HSZ.out rfl HON.out ?_; rw [← HW2.out]) | (refine at_dst17 (d := 28) ?_; refine wpList_step17 (o := ⟨some 28, _, _, _, _, _⟩) (by rfl) _ _ (step_loadCh rfl rfl X2.out) ?_))
            refine HLV.out.mono ?_; rintro e w3 ⟨rfl, hb3⟩
            have B3 := Lib.hid (B2.out.trans (hb3.mono B2.out.size))
            have c3 := (X2.out.later hb3).c0
            clear hb3
            go_wp2_with fail
            go_roundw
            case rel => exact ⟨i + 1, v.x.key, rfl, by go_num, by omega, B3.out, by rw [← HO.out, GK.out, HC0.out, decide_eq_true K1.out]; rfl⟩
            case measure => simp [intOf]; omega
        · have hk2 : (16 : Int) < (v.x.key.size : Int) := by omega
          have K1 := Lib.hid (decide_eq_false hk)
          clear hk
          go_wp2_with (first | (rw [← HW2.out]) | (refine at_dst17 (d := 16) ?_; refine wpList_load_mid (op := ⟨some 16, _, _, _, _, _⟩) rfl 57 (.tmp 15) rfl b (o + i * 5) rfl _ _ RA.out Tryd.underlying57 rfl HSL.out ?_) | (refine at_none17 ?_; refine wpList_store_new17 (o := ⟨none, _, _, _, _, _⟩) rfl 57 (.tmp 5) (.tmp 16) rfl wr _ v.vals.toArray 57 rfl rfl HSZ.out rfl HON.out ?_; rw [← HW2.out]) | (refine at_dst17 (d := 28) ?_; refine wpList_step17 (o := ⟨some 28, _, _, _, _, _⟩) (by rfl) _ _ (step_loadCh rfl rfl X2.out) ?_))
          go_ret
          refine ⟨?_, B2.out⟩
          rw [← HO.out, K1.out, Bool.false_and, Bool.and_false]
          rfl
      · have GK := Lib.hid (show gtK v.x.key a = false from HGT.out)
        go_wp2_with (first | (rw [← HW2.out]) | (refine at_dst17 (d := 16) ?_; refine wpList_load_mid (op := ⟨some 16, _, _, _, _, _⟩) rfl 57 (.tmp 15) rfl b (o + i * 5) rfl _ _ RA.out Tryd.underlying57 rfl HSL.out ?_) | (refine at_none17 ?_; refine wpList_store_new17 (o := ⟨none, _, _, _, _, _⟩) rfl 57 (.tmp 5) (.tmp 16) rfl wr _ v.vals.toArray 57 rfl rfl HSZ.out rfl HON.out ?_; rw [← HW2.out]) | (refine at_dst17 (d := 28) ?_; refine wpList_step17 (o := ⟨some 28, _, _, _, _, _⟩) (by rfl) _ _ (step_loadCh rfl rfl X2.out) ?_))
        go_ret
        refine ⟨?_, B2.out⟩
        rw [← HO.out, GK.out, Bool.false_and]
        rfl
    · obtain rfl : n = i := by omega
      have e : (l.drop n).map CvF.x = [] := by rw [List.drop_of_length_le (by rw [HC.out.len]; exact Nat.le_refl _)]; rfl
      rw [e, okCs] at ho
      have HO := Lib.hid ho
      clear ho e
      go_wp2_with fail
      go_ret
      rw [← HO.out]
      exact ⟨rfl, BE.out⟩
theorem rright17_any (st : Nat) (A : Option Addr) (n c : Nat) (l : List CvF) (w : World) (h : Chs w A n c l) : Calls Tryd.prog 10 #[.agg #[.int .u64 (st : Int), .slice A n c]] w fun e w' => e = .returned (.bool (okR (l.map CvF.x))) ∧ Below w.heap.size w w' := by
  unfold okR
  rw [List.length_map, h.len]
  by_cases hn : n ≤ 16
  · rw [decide_eq_true hn, Bool.true_and]
    exact rright17_few st A n c l hn w h
  · rw [decide_eq_false hn, Bool.false_and]
    exact rright17_many st A n c (by omega) (by have := h.cap; have := h.top; omega) w
end Go.Proofs.YtpijfghklgmefaaDoor
