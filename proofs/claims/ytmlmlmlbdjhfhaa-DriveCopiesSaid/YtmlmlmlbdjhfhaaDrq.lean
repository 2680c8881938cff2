/-
  The contract of package drive's store: those of the writes that wait that a function tells are stored, and nothing waits. Condition: the function handed in answers without turning anything, whatever the drive's own blocks read as.
-/
import Derived.Test.YtmlmlmlbdjhfhaaDrp
import Derived.Deep.LoopGhost
namespace Go.Proofs.Ytmlmlmlbdjhfhaa
open Go.RowKit Go.Proofs Go.Maps
set_option linter.unusedVariables false

theorem step_load9 {ρ : Operand → Value} {o : Oper} {x : Operand} {w : World} {b off : Nat} {l : List UInt8} (ho : o.op = .load 66 x) (hx : ρ x = .pointer (some ⟨b, off, none⟩)) (h : w.rangeAt b off (cells (pad9 l))) : (execOp ρ o).run Try.prog w = .ok (.value (.agg (cells (pad9 l)).toArray)) w := by
  unfold execOp
  simp only [ho, hx, Instr.loadAt, Instr.sureAddr, Sem.run_bind, Sem.run_pure, Result.andThen_ok, run_loadVar_mid w b off 66 _ _ h Try.underlying66 rfl (size9l l)]
theorem step_build9 {ρ : Operand → Value} {o : Oper} {x : Operand} {w : World} {l : List UInt8} (ho : o.op = .build 71 #[(0, x)]) (hx : ρ x = .agg (cells (pad9 l)).toArray) : (execOp ρ o).run Try.prog w = .ok (.value (.agg (sec9 (l, false)).toArray)) w := by
  have h := build9 l w
  unfold execOp
  simp [ho, hx, h, Result.andThen]
section
variable {w : World} {D Bd cd cc M : Nat} {x : Dv} {Ac : Option Addr} {ds : List (List UInt8 × Bool)}
theorem Lst.clear {w : World} {M : Nat} {l : List (Nat × List UInt8)} (h : Lst w M l) : ∃ es clock, w.heap[M]? = some (.map es clock) ∧ Lst { w with heap := w.heap.setIfInBounds M (.map #[] clock) } M [] := by
  obtain ⟨es, clock, hb⟩ := (show ∃ es clock, w.heap[M]? = some (.map es clock) by
    obtain ⟨D, ⟨es, clock, hb, _⟩, _⟩ := h.ex
    exact ⟨es, clock, hb⟩)
  refine ⟨es, clock, hb, .map [], ⟨#[], clock, (MapKept.heap_set hb).1, ⟨by simp, MapKept.stamped_empty clock, by simp⟩, Nat.le_refl _, rfl⟩, ⟨_, rfl⟩, fun i zd => by
    show _ = zd
    simp [WideAt.atKey_none]⟩
theorem run_clear9 {w : World} {M : Nat} {es : Array MapEntry} {clock : Nat} {ty : TypeId} (hb : w.heap[M]? = some (.map es clock)) : (Builtin.clear_ #[60] ty #[.map (some M)]).run Try.prog w = .ok (.tuple #[]) { w with heap := w.heap.setIfInBounds M (.map #[] clock) } := by
  simp [Builtin.clear_, run_underlying Try.underlying60, MapKept.run_getObj_map hb, MapKept.run_setObj_map _ hb, Result.andThen]
theorem Fr.setBlk {w : World} {M : Nat} (o : Obj) : Fr (fun b => b = M) w { w with heap := w.heap.setIfInBounds M o } :=
  ⟨rfl, rfl, rfl, by simp, fun k hk hs => by
    have : M ≠ k := fun e => hs e.symm
    simp [this]⟩

theorem Rq.put {p : Nat × List UInt8} (h : Rq w D x Bd cd Ac cc M ds) (hg : x.gone = false) (hp : p.1 < x.n) (hl : p.2.length = 64) : Rq (w.setCells Bd (p.1 * 65) (sec9 (p.2, false))) D (x.put p) Bd cd Ac cc M (ds.set p.1 (p.2, false)) := by
  have hF : Fr (fun b => b = Bd) w (w.setCells Bd (p.1 * 65) (sec9 (p.2, false))) := Fr.setCells _ (Fr.refl _ _) rfl
  have hn : (x.put p).n = x.n := Dv.put_n p
  refine ⟨?_, ?_, ?_, h.lst.fr hF (fun e => h.ne3 e.symm), ?_, ?_, ?_, h.ok.put ⟨hp, hl⟩, fun _ i hi => ?_⟩
  · rw [hn]
    exact hF.row_some h.box h.ne1
  · rw [hn]
    exact h.disk.sec_put hp _
  · rcases h.cch with q | ⟨Bc, hA, hc⟩
    · exact .inl q
    · exact .inr ⟨Bc, hA, hc.fr hF (h.ne4 hA).2.1⟩
  · rw [hn, List.length_set]; exact h.len
  · rw [hn]; exact h.n1
  · rw [hn]; exact h.n2
  · rw [hn] at hi
    have hst := (h.ok.live hg).1
    have hrt : x.rot.length = x.n := rfl
    have hd := h.len
    by_cases he : p.1 = i
    · subst he
      simp [Dv.put, hd, hst, hrt, hp]
    · have := h.has hg i hi
      simp [Dv.put, he]
      simpa using this

set_option maxRecDepth 100000
set_option maxHeartbeats 4000000
theorem dvstore_any (g : Nat) (eg : ∀ args w, (callFunc g args).run Try.prog w = .ok (.enter g args) w) (caps : Array Value) (q : Nat → Bool) (h : Rq w D x Bd cd Ac cc M ds)
    (ht : ∀ (W : World) (i : Nat), i < x.wait.length → Fr (Blk9 D Bd M Ac) w W → Calls Try.prog g (#[.int .i64 (i : Int)] ++ caps) W fun e w' => e = .returned (.bool (q i)) ∧ w' = W) (hwl : x.wait.length ≤ 100000) :
    Calls Try.prog 28 #[.pointer (some ⟨D, 0, none⟩), .func (.func g) #[] caps] w fun e w' => e = .returned (.tuple #[]) ∧ Fr (Blk9 D Bd M Ac) w w' ∧ ∃ ds', Rq w' D (x.store q) Bd cd none 0 M ds' := by
  have c1 := h.c1
  obtain ⟨nw, hnw⟩ : ∃ nw, nw = x.wait.length := ⟨_, rfl⟩
  rw [← hnw] at c1 ht hwl
  have HN := Lib.hid hnw
  have HT := Lib.hid ht
  have HR := Lib.hid h
  clear hnw h ht
  go_enter Try.func28, Try.ntmps28
  go_wp2_with fail
  clear c1
  go_loopw [11] (fun i wr => ∃ (k : Nat) (ds' : List (List UInt8 × Bool)), k ≤ nw ∧ i = .int .i64 (k : Int) ∧ Rq wr D (x.puts (selq q (x.wait.take k) 0)) Bd cd Ac cc M ds' ∧ Fr (Blk9 D Bd M Ac) w wr) (fun i _ => nw - (intOf i).toNat)
  case atStart => exact ⟨0, ds, by omega, rfl, HR.out, Fr.refl _ _⟩
  case round =>
    obtain ⟨k, ds', hk, rfl, hq, hf⟩ := hrel
    obtain ⟨y, hy⟩ : ∃ y, y = x.puts (selq q (x.wait.take k) 0) := ⟨_, rfl⟩
    rw [← hy] at hq
    have hwy : y.wait = x.wait := by rw [hy, Dv.puts_wait]
    have Hwy := Lib.hid hwy
    have Hy := Lib.hid hy
    have HQ := Lib.hid hq
    have HF := Lib.hid hf
    clear hq hf hy hwy
    by_cases hlt : k < nw
    · have hki : (k : Int) < (nw : Int) := by omega
      have hnxt : x.wait.take (k + 1) = x.wait.take k ++ [x.wait[k]'(by have := HN.out; omega)] := by simp
      obtain ⟨p, hpe⟩ : ∃ p, p = x.wait[k]'(by have := HN.out; omega) := ⟨_, rfl⟩
      rw [← hpe] at hnxt
      have hp : y.wait[k]? = some p := by rw [Hwy.out, hpe]; exact List.getElem?_eq_getElem _
      have Hnxt := Lib.hid hnxt
      obtain ⟨hp1, hp2⟩ := HQ.out.ok.wait p (List.mem_of_getElem? hp)
      obtain ⟨Bc, hA, hc⟩ : ∃ Bc, Ac = some ⟨Bc, 0, none⟩ ∧ Rw wr Bc 68 65 y.wait.length cc (y.wait.flatMap wrc9) := by
        rcases HQ.out.cch with ⟨h0, _⟩ | hh
        · rw [h0] at hp; cases hp
        · exact hh
      subst hA
      have hrgW := hc.wr_all hp
      have Hp2 := Lib.hid hp2
      have hg : y.gone = false := by
        cases hgg : y.gone
        · rfl
        · have := HQ.out.ok.dead hgg
          rw [this] at hp; cases hp
      have Hg := Lib.hid hg
      have hwz := zeroW9
      clear hnxt hpe hp hc hp2 hg
      go_wp2_with (first
        | (refine at_dst (d := 15) ?_; refine wpList_load_mid (op := ⟨some 15, _, _, _, _, _⟩) rfl 68 (.tmp 14) rfl Bc (k * 65) rfl (wrc9 p) _ hrgW Try.underlying68 rfl (sizeW9l p) ?_)
        | (refine at_none ?_; refine wpList_store_row (o := ⟨none, _, _, _, _, _⟩) rfl 68 (.tmp 5) (.tmp 15) rfl wr.heap.size _ rfl rfl 68 (wrc9 (0, [])).toArray (heap_alloc_last _ _) (sizeW9 p) (sameW9 _ _) (oneW9 p) ?_; rw [World.setRow_alloc_new]))
      have hB2 : Below wr.heap.size wr (wr.alloc (.cells (wrc9 p).toArray 68)) := (Below.refl _ _).alloc (Nat.le_refl _) _
      have hV := readW9 (heap_alloc_new wr (.cells (wrc9 p).toArray 68))
      obtain ⟨w2, hw2⟩ : ∃ w2, w2 = wr.alloc (.cells (wrc9 p).toArray 68) := ⟨_, rfl⟩
      rw [← hw2] at hB2 hV ⊢
      clear hw2 hrgW hwz
      have HF2 := Lib.hid (HF.out.trans (Fr.of_below (S := Blk9 D Bd M (some ⟨Bc, 0, none⟩)) hB2))
      have HQ2 := Lib.hid (HQ.out.later hB2)
      have V0 := Lib.hid (show w2.drew.cell? ⟨wr.heap.size, 0, none⟩ = _ from hV.1)
      have V1 := Lib.hid (show w2.drew.rangeAt wr.heap.size 1 _ from hV.2)
      have C0 := Lib.hid (show w2.drew.cell? ⟨D, 0, none⟩ = _ from HQ2.out.c0)
      have N0 := Lib.hid (show ¬ D = Bd from HQ2.out.ne1)
      have N1 := Lib.hid (show ¬ wr.heap.size = Bd from by have := HQ.out.lt (b := Bd) (.inr (.inl rfl)); omega)
      have HTh := Lib.hid (show w2.drew.there Bd (p.1 * 65) (sec9 (p.2, false)).toArray.size from (HQ2.out.disk.later (Below.drew (Below.refl _ _))).there (by rw [List.size_toArray, sec9_len]; omega))
      have hp1i : (p.1 : Int) < (y.n : Int) := by omega
      have hh := HT.out w2 k hlt HF2.out
      clear hB2 hV
      by_cases hqk : q k = true
      · rw [hqk] at hh
        refine hh.mono ?_; clear hh; rintro e w3 ⟨rfl, hw3⟩
        obtain rfl : w2 = w3 := hw3.symm
        have Hqk := Lib.hid hqk
        clear hqk
        go_wp2_with fail
        refine wp_region_held_drew (S := fun w' => Fr (fun b => b = Bd) w2.drew w') (by kernel_rfl) (Fr.refl _ _) (fun hHeld => ?_)
        clear hHeld
        refine wpAnyH_take (i := 0) (oi := ⟨some 19, _, _, _, _, _⟩) (v := ?vs0) rfl (by kernel_rfl) (by kernel_rfl) (by kernel_rfl) (fun _ _ _ h => h) (Or.inl ⟨by rfl, ?ys0⟩) (Fr.refl _ _) ?rs0
        case ys0 =>
          intro wq hSw
          (try dsimp only at hSw)
          first | (go_simp; done) | (go_simp; with_reducible rfl)
        try simp only [Act.put, List.setIfInBounds_toArray, List.set_cons_zero, List.set_cons_succ]
        refine wpAnyH_take (i := 1) (oi := ⟨some 20, _, _, _, _, _⟩) (v := ?vs1) rfl (by kernel_rfl) (by kernel_rfl) (by kernel_rfl) (fun _ _ _ h => h) (Or.inl ⟨by rfl, ?ys1⟩) (Fr.refl _ _) ?rs1
        case ys1 =>
          intro wq hSw
          (try dsimp only at hSw)
          first | (go_simp; done) | (go_simp; with_reducible rfl)
        try simp only [Act.put, List.setIfInBounds_toArray, List.set_cons_zero, List.set_cons_succ]
        refine wpAnyH_take (i := 2) (oi := ⟨some 21, _, _, _, _, _⟩) (v := ?vs2) rfl (by kernel_rfl) (by kernel_rfl) (by kernel_rfl) (fun _ _ _ h => h) (Or.inl ⟨by rfl, ?ys2⟩) (Fr.refl _ _) ?rs2
        case ys2 =>
          intro wq hSw
          (try dsimp only at hSw)
          first | (go_simp; done) | (go_simp; with_reducible rfl)
        try simp only [Act.put, List.setIfInBounds_toArray, List.set_cons_zero, List.set_cons_succ]
        refine wpAnyH_take (i := 3) (oi := ⟨some 22, _, _, _, _, _⟩) (v := ?vs3) rfl (by kernel_rfl) (by kernel_rfl) (by kernel_rfl) (fun _ _ _ h => h) (Or.inl ⟨by rfl, ?ys3⟩) (Fr.refl _ _) ?rs3
        case ys3 =>
          intro wq hSw
          (try dsimp only at hSw)
          have hq := hSw.cell_some C0.out N0.out
          first | (go_simp; done) | (go_simp; with_reducible rfl)
        try simp only [Act.put, List.setIfInBounds_toArray, List.set_cons_zero, List.set_cons_succ]
        refine wpAnyH_take (i := 4) (oi := ⟨some 23, _, _, _, _, _⟩) (v := ?vs4) rfl (by kernel_rfl) (by kernel_rfl) (by kernel_rfl) (fun _ _ _ h => h) (Or.inl ⟨by rfl, ?ys4⟩) (Fr.refl _ _) ?rs4
        case ys4 =>
          intro wq hSw
          (try dsimp only at hSw)
          first | (go_simp; done) | (go_simp; with_reducible rfl)
        try simp only [Act.put, List.setIfInBounds_toArray, List.set_cons_zero, List.set_cons_succ]
        refine wpAnyH_take (i := 5) (oi := ⟨some 24, _, _, _, _, _⟩) (v := ?vs5) rfl (by kernel_rfl) (by kernel_rfl) (by kernel_rfl) (fun _ _ _ h => h) (Or.inl ⟨by rfl, ?ys5⟩) (Fr.refl _ _) ?rs5
        case ys5 =>
          intro wq hSw
          (try dsimp only at hSw)
          have hq := hSw.cell_some V0.out N1.out
          first | (go_simp; done) | (go_simp; with_reducible rfl)
        try simp only [Act.put, List.setIfInBounds_toArray, List.set_cons_zero, List.set_cons_succ]
        refine wpAnyH_take (i := 6) (oi := ⟨some 25, _, _, _, _, _⟩) (v := ?vs6) rfl (by kernel_rfl) (by kernel_rfl) (by kernel_rfl) (fun _ _ _ h => h) (Or.inl ⟨by rfl, ?ys6⟩) (Fr.refl _ _) ?rs6
        case ys6 =>
          intro wq hSw
          (try dsimp only at hSw)
          first | (go_simp; done) | (go_simp; with_reducible rfl)
        try simp only [Act.put, List.setIfInBounds_toArray, List.set_cons_zero, List.set_cons_succ]
        refine wpAnyH_take (i := 7) (oi := ⟨some 26, _, _, _, _, _⟩) (v := (.agg (cells (pad9 p.2)).toArray)) rfl (by kernel_rfl) (by kernel_rfl) (by kernel_rfl) (fun _ _ _ h => h) (Or.inl ⟨by rfl, ?ys7⟩) (Fr.refl _ _) ?rs7
        case ys7 =>
          intro wq hSw
          exact step_load9 (x := .tmp 25) (b := wr.heap.size) (off := 1) (l := p.2) rfl rfl (fun j v hv => hSw.cell_some (V1.out j v hv) N1.out)
        try simp only [Act.put, List.setIfInBounds_toArray, List.set_cons_zero, List.set_cons_succ]
        refine wpAnyH_take (i := 8) (oi := ⟨some 27, _, _, _, _, _⟩) (v := (.agg (sec9 (p.2, false)).toArray)) rfl (by kernel_rfl) (by kernel_rfl) (by kernel_rfl) (fun _ _ _ h => h) (Or.inl ⟨by rfl, ?ys8⟩) (Fr.refl _ _) ?rs8
        case ys8 =>
          intro wq hSw
          exact step_build9 (x := .tmp 26) (l := p.2) rfl rfl
        try simp only [Act.put, List.setIfInBounds_toArray, List.set_cons_zero, List.set_cons_succ]
        refine wpAnyH_take (i := 9) (oi := ⟨some 28, _, _, _, _, _⟩) (v := ?vs9) rfl (by kernel_rfl) (by kernel_rfl) (by kernel_rfl) (fun _ _ _ h => h) (Or.inl ⟨by rfl, ?ys9⟩) (Fr.refl _ _) ?rs9
        case ys9 =>
          intro wq hSw
          (try dsimp only at hSw)
          first | (go_simp; done) | (go_simp; with_reducible rfl)
        try simp only [Act.put, List.setIfInBounds_toArray, List.set_cons_zero, List.set_cons_succ]
        refine wpAnyH_ready (rs := [10]) (by kernel_rfl) (by simp) ?_
        refine AllReadyH.cons (o := ⟨none, _, _, _, _, _⟩) rfl (fun K hK => ?_) AllReadyH.nil
        refine wp_store_mid (op := ⟨none, _, _, _, _, _⟩) 71 (.tmp 28) (.tmp 27) rfl Bd (p.1 * 65) (sec9 (p.2, false)).toArray rfl rfl (HTh.out) (sizeS9 _) (oneS9 _) ?_
        rw [List.toList_toArray]
        have hfr : Fr (fun b => b = Bd) w2.drew (w2.drew.setCells Bd (p.1 * 65) (sec9 (p.2, false))) := Fr.setCells _ (Fr.refl _ _) rfl
        obtain ⟨w4, hw4⟩ : ∃ w4, w4 = w2.drew.setCells Bd (p.1 * 65) (sec9 (p.2, false)) := ⟨_, rfl⟩
        rw [← hw4] at hfr ⊢
        have HF4 := Lib.hid hfr
        have Hw4 := Lib.hid hw4
        clear hw4
        refine hK.out _ _ hfr (fun hHeld => ?_)
        clear hK K hHeld
        try simp only [Act.put]
        refine wpAnyH_re (S' := fun w' => Fr (fun b => b = Bd) w4 w') (fun w' h => hfr.trans h) ?_
        clear hfr
        refine wpAnyH_done (by kernel_rfl) ?_ _
        go_wp2_with fail
        go_roundw
        case rel =>
          refine ⟨k + 1, ds'.set p.1 (p.2, false), by omega, by go_num, ?_, ?_⟩
          · rw [Hnxt.out, selq_snoc, Nat.zero_add, List.length_take, Nat.min_eq_left (by have := HN.out; omega), if_pos Hqk.out, Dv.puts_snoc, ← Hy.out]
            have hw := Hw4.out
            subst hw
            exact (HQ2.out.later (Below.drew (Below.refl _ _))).put Hg.out hp1 Hp2.out
          · exact HF2.out.trans (((Fr.refl _ _).drew).trans (HF4.out.mono fun b hb => .inr (.inl hb)))
        case measure => simp [intOf]; omega
      · have hqf : q k = false := by simpa using hqk
        rw [hqf] at hh
        refine hh.mono ?_; clear hh; rintro e w3 ⟨rfl, hw3⟩
        obtain rfl : w2 = w3 := hw3.symm
        have Hqk := Lib.hid hqk
        clear hqk hqf
        go_wp2_with fail
        go_roundw
        case rel =>
          refine ⟨k + 1, ds', by omega, by go_num, ?_, HF2.out⟩
          rw [Hnxt.out, selq_snoc, Nat.zero_add, List.length_take, Nat.min_eq_left (by have := HN.out; omega), if_neg Hqk.out, List.append_nil, ← Hy.out]
          exact HQ2.out
        case measure => simp [intOf]; omega
    · have hki : ¬ (k : Int) < (nw : Int) := by omega
      have k1 := HQ.out.c1
      have kf := HQ.out.free 1
      have k2 := HQ.out.c2
      have hF5 : Fr (fun b => b = D) wr (wr.setCell ⟨D, 1, none⟩ (.slice none 0 0)) := (Fr.refl (fun b => b = D) _).setCell (p := ⟨D, 1, none⟩) (.inr rfl) _
      have hl5 := HQ.out.lst.fr hF5 (fun e => HQ.out.ne2 e.symm)
      obtain ⟨es, clock, hb5, hl6⟩ := hl5.clear
      have hcl := fun ty => run_clear9 (ty := ty) hb5
      have HF5 := Lib.hid hF5
      have HB5 := Lib.hid hb5
      have HL6 := Lib.hid hl6
      clear hF5 hb5 hl5 hl6
      go_wp2_with fail
      go_end0
      obtain rfl : k = nw := by omega
      have hxs : x.store q = y.quiet := by rw [Dv.store, Hy.out, List.take_of_length_le (by have := HN.out; omega)]
      have hq := HQ.out
      have hG : Fr (fun b => b = M) (wr.setCell ⟨D, 1, none⟩ (.slice none 0 0)) _ := Fr.setBlk (.map #[] clock)
      refine ⟨rfl, HF.out.trans ((HF5.out.mono fun b hb => .inl hb).trans (hG.mono fun b hb => .inr (.inr (.inl hb)))), ds', ?_⟩
      rw [hxs]
      refine ⟨hG.row_some (heap_setCell_same wr D 1 _ _ (.slice none 0 0) hq.box) hq.ne2, (hq.disk.fr HF5.out (fun e => hq.ne1 e.symm)).fr hG hq.ne3, .inl ⟨rfl, rfl, rfl⟩, HL6.out, hq.len, hq.n1, hq.n2, hq.ok.quiet, hq.has⟩
end
end Go.Proofs.Ytmlmlmlbdjhfhaa
