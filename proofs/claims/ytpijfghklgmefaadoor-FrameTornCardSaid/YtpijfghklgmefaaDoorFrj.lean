/-
  Contract of package frame's PutRecord. Conditions: bounds. (Written by gen_frj.py.)
-/
import Derived.Test.YtpijfghklgmefaaDoorFri
namespace Go.Proofs.YtpijfghklgmefaaDoor
open Go.RowKit Go.Proofs
set_option linter.unusedVariables false
set_option maxRecDepth 20000
set_option maxHeartbeats 1600000

/-- Bytes in memory with no room behind. -/
def RetCut (B : Nat) (w : World) (l : List UInt8) (e : Ending) (w' : World) : Prop := ∃ A n, e = .returned (.slice A n n) ∧ Sl w' 1 A n n (cells l) ∧ Below B w w'
theorem putText17 (A : Option Addr) (n c : Nat) (l : List UInt8) (t : ByteArray) (w : World) (h : Sl w 1 A n c (cells l)) (h47 : n + t.size ≤ 140737488355200) :
    Calls Tryd.prog 21 #[.slice A n c, .string t] w (RetCut w.heap.size w (l ++ venc 9 t.size ++ t.data.toList)) := by
  have hlo : Calls Tryd.prog 46 #[.slice A n c, .string t] w (RetCut w.heap.size w (l ++ venc 9 t.size ++ t.data.toList)) := by
    go_enter Tryd.func46, Tryd.ntmps46
    go_wp2_with fail
    refine (cut_any A n c h.cap h.top _).mono ?_; rintro e w' ⟨rfl, rfl⟩
    go_wp2_with fail
    refine (appendVar_any A n n w.heap.size l t.size _ (Own.full (h.recap (Nat.le_refl _) h.lim)) (Nat.le_refl _) (by omega) (by omega)).mono ?_; rintro e w1 ⟨A1, n1, c1, rfl, h1, hb⟩
    have hl1 : n1 ≤ n + 10 := by
      have a := h1.sl.len
      have b := h.len
      have d := venc_length 9 t.size
      rw [cells_length, List.length_append] at a
      rw [cells_length] at b
      omega
    have hz := hb.size
    go_wp2_with (at_builtin; refine wpList_append_s (B := w.heap.size) rfl (.tmp 10) (.tmp 11) rfl rfl h1 hz t rfl ?c3 ?c4)
    case c3 => omega
    intro A2 c2 w2 ho2 hb2
    go_wp2_with fail
    refine (cut_any A2 (n1 + t.size) c2 ho2.sl.cap ho2.sl.top _).mono ?_; rintro e w' ⟨rfl, rfl⟩
    go_wp2_with fail
    go_ret
    exact ⟨A2, n1 + t.size, rfl, by rw [cells_append (l ++ venc 9 t.size)]; exact ho2.sl.recap (Nat.le_refl _) ho2.sl.lim, hb.trans hb2⟩
  go_enter Tryd.func21, Tryd.ntmps21
  go_wp2_with fail
  refine hlo.mono ?_; clear hlo; rintro e w1 ⟨A1, n1, rfl, h1, hb⟩
  go_wp2_with fail
  go_ret
  exact ⟨A1, n1, rfl, h1, hb⟩

/-- A change as bytes. -/
def chB (x : ChF) : List UInt8 := venc 9 x.key.size ++ x.key.data.toList ++ (if x.dead then [1] else 0 :: blobI x.q x.g x.ps)
/-- A record as bytes. -/
def putR (st : Nat) (cs : List ChF) : List UInt8 := venc 9 st ++ venc 9 cs.length ++ cs.flatMap chB
theorem okCs_each : ∀ (l : List ChF) (a : ByteArray), okCs a l = true → ∀ x ∈ l, okC x = true ∧ x.key.size ≤ 16
  | [], _, _, x, hx => by cases hx
  | y :: r, a, h, x, hx => by
    rw [okCs, Bool.and_eq_true, Bool.and_eq_true, Bool.and_eq_true] at h
    rcases List.mem_cons.1 hx with rfl | hx
    · exact ⟨h.2.2.1, of_decide_eq_true h.2.1⟩
    · exact okCs_each r y.key h.2.2.2 x hx
theorem okC_alive {x : ChF} (h : okC x = true) (hd : x.dead = false) : 0 ≤ x.q ∧ x.q ≤ 400 ∧ x.ps.length ≤ 400 ∧ ∀ p ∈ x.ps, 0 ≤ p ∧ p ≤ 599 := by
  unfold okC at h
  rw [hd, if_neg (by decide), Bool.and_eq_true] at h
  have h1 := h.1
  have h2 := h.2
  simp only [Bool.not_eq_true', Bool.or_eq_false_iff, decide_eq_false_iff_not] at h1
  rw [Bool.not_eq_true', List.any_eq_false] at h2
  refine ⟨by omega, by omega, by omega, fun p hp => ?_⟩
  have := h2 p hp
  simp only [Bool.or_eq_true, decide_eq_true_eq] at this
  omega
theorem chB_len {x : ChF} (h : okC x = true) (hk : x.key.size ≤ 16) : (chB x).length ≤ 4100 := by
  have h1 := venc_length 9 x.key.size
  have h2 : x.key.data.toList.length = x.key.size := Array.length_toList
  unfold chB
  rw [List.length_append, List.length_append, h2]
  cases hd : x.dead
  · obtain ⟨_, _, hl, _⟩ := okC_alive h hd
    have h3 := flat_venc x.ps
    have h4 := venc_length 9 x.q.toNat
    have h5 := venc_length 9 x.g
    have h6 := venc_length 9 x.ps.length
    rw [if_neg (by decide), List.length_cons, blobI, List.length_append, List.length_append, List.length_append]
    omega
  · rw [if_pos rfl]
    simp
    omega
theorem step_loadRe {ρ : Operand → Value} {o : Oper} {x : Operand} {w : World} {B st n c : Nat} {A : Option Addr} (ho : o.op = .load 25 x) (hx : ρ x = .pointer (some ⟨B, 0, none⟩)) (h : ReB w B st A n c) : (execOp ρ o).run Tryd.prog w = .ok (.value (.agg #[.int .u64 (st : Int), .slice A n c])) w := by
  unfold execOp
  simp only [ho, hx, Instr.loadAt, Instr.sureAddr, Sem.run_bind, Sem.run_pure, Result.andThen_ok, run_loadVar_row w B _ 25 #[.int .u64 (st : Int), .slice A n c] (0, 0) _ h Tryd.underlying25 rfl (show _ = some 2 by kernel_rfl)]
theorem step_loadBl17 {ρ : Operand → Value} {o : Oper} {x : Operand} {w : World} {B : Nat} {v : CvF} (ho : o.op = .load 55 x) (hx : ρ x = .pointer (some ⟨B, 2, none⟩)) (h : CvB w B v) : (execOp ρ o).run Tryd.prog w = .ok (.value (.agg #[.slice v.A v.x.ps.length v.c, .int .u64 (v.x.g : Int), .int .i64 v.x.q])) w := by
  have hr : w.rangeAt B 2 [.slice v.A v.x.ps.length v.c, .int .u64 (v.x.g : Int), .int .i64 v.x.q] := fun j u hu => by
    rcases j with _ | _ | _ | j
    · simp at hu; subst hu; exact h.c2
    · simp at hu; subst hu; exact h.c3
    · simp at hu; subst hu; exact h.c4
    · simp at hu
  unfold execOp
  simp only [ho, hx, Instr.loadAt, Instr.sureAddr, Sem.run_bind, Sem.run_pure, Result.andThen_ok, run_loadVar_mid w B 2 55 _ _ hr Tryd.underlying55 rfl (size_blf _ _ _ _ _)]
theorem putRecord_no (st : Nat) (A : Option Addr) (n c : Nat) (l : List CvF) (w : World) (h : Chs w A n c l) (hr : okR (l.map CvF.x) = false) : Calls Tryd.prog 9 #[.agg #[.int .u64 (st : Int), .slice A n c]] w fun e w' => e = .returned (.tuple #[.slice none 0 0, .int .i64 2]) ∧ Below w.heap.size w w' := by
  have hb1 : Below w.heap.size w (w.alloc (.cells #[.int .u64 (st : Int), .slice A n c] 25)) := (Below.refl _ _).alloc (Nat.le_refl _) _
  have hx := ReB.new (w := w) (st := st) (A := A) (n := n) (c := c)
  obtain ⟨wa, hwa⟩ : ∃ x, x = w.alloc (.cells #[.int .u64 (st : Int), .slice A n c] 25) := ⟨_, rfl⟩
  have HWA := Lib.hid hwa
  rw [← hwa] at hb1 hx
  have hri := rright17_any st A n c l wa (h.below hb1)
  rw [hr] at hri
  have X := Lib.hid hx
  have HB := Lib.hid hb1
  clear hb1 hx h hr hwa
  go_enter Tryd.func9, Tryd.ntmps9
  go_wp2_with (first | (rw [← HWA.out]) | (refine at_dst17 (d := 7) ?_; refine wpList_step17 (o := ⟨some 7, _, _, _, _, _⟩) (by rfl) _ _ (step_loadRe rfl rfl X.out) ?_))
  refine hri.mono ?_; clear hri; rintro e w2 ⟨rfl, hb2⟩
  have B2 := Lib.hid (HB.out.trans (hb2.mono HB.out.size))
  clear hb2
  go_wp2_with fail
  go_ret2
  exact ⟨rfl, B2.out⟩
theorem putRecord_yes (st : Nat) (hst : st < 18446744073709551616) (A : Option Addr) (n c : Nat) (l : List CvF) (w : World) (h : Chs w A n c l) (hr : okR (l.map CvF.x) = true) (hg : ∀ v ∈ l, v.x.g < 18446744073709551616) : Calls Tryd.prog 9 #[.agg #[.int .u64 (st : Int), .slice A n c]] w fun e w' => ∃ A' n' c', e = .returned (.tuple #[.slice A' n' c', .int .i64 0]) ∧ Sl w' 1 A' n' c' (cells (putR st (l.map CvF.x))) ∧ Below w.heap.size w w' := by
  have hb1 : Below w.heap.size w (w.alloc (.cells #[.int .u64 (st : Int), .slice A n c] 25)) := (Below.refl _ _).alloc (Nat.le_refl _) _
  have hx := ReB.new (w := w) (st := st) (A := A) (n := n) (c := c)
  obtain ⟨wa, hwa⟩ : ∃ x, x = w.alloc (.cells #[.int .u64 (st : Int), .slice A n c] 25) := ⟨_, rfl⟩
  have HWA := Lib.hid hwa
  rw [← hwa] at hb1 hx
  have hri := rright17_any st A n c l wa (h.below hb1)
  rw [hr] at hri
  have hok : ∀ v ∈ l, okC v.x = true ∧ v.x.key.size ≤ 16 := fun v hv => by
    unfold okR at hr
    rw [Bool.and_eq_true] at hr
    exact okCs_each _ _ hr.2 v.x (List.mem_map.2 ⟨v, hv, rfl⟩)
  have hn16 : n ≤ 16 := by
    unfold okR at hr
    rw [Bool.and_eq_true, List.length_map, h.len] at hr
    exact of_decide_eq_true hr.1
  have hp1 := fun W => putVar_any none 0 0 [] st W (Sl.nil W 1 0 (by decide)) (by decide) hst
  have OK := Lib.hid hok
  have HG := Lib.hid hg
  have X := Lib.hid hx
  have HB := Lib.hid hb1
  have HC := Lib.hid h
  have c0 := hx.c0
  have e2 : IntKind.u64.wrap (n : Int) = (n : Int) := by rw [IntKind.wrap_u64]; omega
  clear hb1 hx h hr hwa hok hg
  go_enter Tryd.func9, Tryd.ntmps9
  go_wp2_with (first | (rw [← HWA.out]) | (refine at_dst17 (d := 7) ?_; refine wpList_step17 (o := ⟨some 7, _, _, _, _, _⟩) (by rfl) _ _ (step_loadRe rfl rfl X.out) ?_))
  refine hri.mono ?_; clear hri; rintro e w2 ⟨rfl, hb2⟩
  have B2 := Lib.hid (HB.out.trans (hb2.mono HB.out.size))
  have X2 := Lib.hid (X.out.later hb2)
  have d0 := X2.out.c0
  clear hb2
  go_wp2_with fail
  refine (hp1 w2).mono ?_; rintro e w3 ⟨A3, n3, c3, rfl, hs3, hb3⟩
  rw [List.nil_append] at hs3
  have hl3 := hs3.len
  rw [cells_length, Nat.mul_one] at hl3
  have hv3 := venc_length 9 st
  have B3 := Lib.hid (B2.out.trans (hb3.mono B2.out.size))
  have X3 := Lib.hid (X2.out.later hb3)
  have d1 := X3.out.c1
  have hp2 := putVar_any A3 n3 c3 _ n w3 hs3 (by omega) (by omega)
  clear hs3 hb3 d0 hp1
  go_wp2_with fail
  refine hp2.mono ?_; clear hp2; rintro e w4 ⟨A4, n4, c4, rfl, hs4, hb4⟩
  have B4 := Lib.hid (B3.out.trans (hb4.mono B3.out.size))
  have X4 := Lib.hid (X3.out.later hb4)
  have d1 := X4.out.c1
  have S4 := Lib.hid hs4
  have HL4 := Lib.hid (show (venc 9 st ++ venc 9 n).length ≤ 20 from by rw [List.length_append]; have := venc_length 9 n; omega)
  clear hs4 hb4 hl3 hv3 e2
  go_wp2_with fail
  go_loopw [4, 22] (fun tv iv wr => ∃ (i : Nat) (A5 : Option Addr) (n5 c5 : Nat), tv = .slice A5 n5 c5 ∧ iv = .int .i64 (i : Int) ∧ i ≤ n ∧ Sl wr 1 A5 n5 c5 (cells (venc 9 st ++ venc 9 n ++ ((l.take i).map CvF.x).flatMap chB)) ∧ Below w.heap.size w wr ∧ (venc 9 st ++ venc 9 n ++ ((l.take i).map CvF.x).flatMap chB).length ≤ 20 + i * 4100) (fun _ iv _ => n - (intOf iv).toNat)
  case atStart => exact ⟨0, A4, n4, c4, rfl, rfl, by omega, by simpa using S4.out, B4.out, by simpa using HL4.out⟩
  case round =>
    obtain ⟨i, A5, n5, c5, rfl, rfl, hi, hs5, hbe, hln⟩ := hrel
    have S5 := Lib.hid hs5
    have BE := Lib.hid hbe
    clear hbe X4 d1 c0 S4
    by_cases hlt : i < n
    · have hii : (i : Int) < (n : Int) := by omega
      obtain ⟨v, hv⟩ : ∃ v, l[i]? = some v := ⟨_, List.getElem?_eq_getElem (by rw [HC.out.len]; exact hlt)⟩
      have hvm := List.mem_of_getElem? hv
      obtain ⟨hok, hks⟩ := OK.out v hvm
      have hgv := HG.out v hvm
      have htk : ((l.take (i + 1)).map CvF.x).flatMap chB = ((l.take i).map CvF.x).flatMap chB ++ chB v.x := by
        rw [List.take_add_one, hv, List.map_append, List.flatMap_append]
        simp
      have hcl5 := chB_len hok hks
      have hl5 := hs5.len
      rw [cells_length, Nat.mul_one] at hl5
      obtain ⟨b, o, rfl, hcl, hvo⟩ := (HC.out.below BE.out).cell i v hv
      have RA := Lib.hid (range_ch hcl)
      have hb2 : Below wr.heap.size wr (wr.alloc (.cells v.vals.toArray 57)) := (Below.refl _ _).alloc (Nat.le_refl _) _
      have hx2 := CvB.new (w := wr) (v := v)
      obtain ⟨w5, hw5⟩ : ∃ x, x = wr.alloc (.cells v.vals.toArray 57) := ⟨_, rfl⟩
      have HW5 := Lib.hid hw5
      rw [← hw5] at hb2 hx2
      have k0 := hx2.c0
      have X5 := Lib.hid hx2
      have B5 := Lib.hid (BE.out.trans (hb2.mono BE.out.size))
      have hpt := putText17 A5 n5 c5 _ v.x.key w5 (hs5.below hb2 (Nat.le_refl _)) (by omega)
      have HV := Lib.hid (hvo.below hb2)
      have HSZ := Lib.hid (size_ch v)
      have HSL := Lib.hid (show (Tryd.prog.info? 57).map (·.size) = some v.vals.length from HSZ.out)
      have HON := Lib.hid (one_ch v)
      have TK := Lib.hid htk
      have CL := Lib.hid hcl5
      have LN := Lib.hid hln
      have OKV := Lib.hid hok
      have L5 := Lib.hid hl5
      clear hb2 hx2 hw5 hcl hvo htk hcl5 hln hok hs5 hl5
      go_wp2_with (first | (rw [← HW5.out]) | (refine at_dst17 (d := 25) ?_; refine wpList_load_mid (op := ⟨some 25, _, _, _, _, _⟩) rfl 57 (.tmp 24) rfl b (o + i * 5) rfl _ _ RA.out Tryd.underlying57 rfl HSL.out ?_) | (refine at_none17 ?_; refine wpList_store_new17 (o := ⟨none, _, _, _, _, _⟩) rfl 57 (.tmp 6) (.tmp 25) rfl wr _ v.vals.toArray 57 rfl rfl HSZ.out rfl HON.out ?_; rw [← HW5.out]))
      refine hpt.mono ?_; clear hpt; rintro e w6 ⟨A6, n6, rfl, hs6, hb6⟩
      have B6 := Lib.hid (B5.out.trans (hb6.mono B5.out.size))
      have X6 := Lib.hid (X5.out.later hb6)
      have k1 := X6.out.c1
      have S6 := Lib.hid hs6
      have V6 := Lib.hid (HV.out.below hb6)
      have hl6 := hs6.len
      rw [cells_length, Nat.mul_one] at hl6
      have L6 := Lib.hid hl6
      obtain ⟨T, hT⟩ : ∃ T, T = venc 9 st ++ venc 9 n ++ ((l.take i).map CvF.x).flatMap chB := ⟨_, rfl⟩
      have HT := Lib.hid hT
      rw [← hT] at S6 LN L6
      have hn6 : n6 ≤ 90000 := by
        have h1 := L6.out
        have h2 := LN.out
        have h3 := venc_length 9 v.x.key.size
        have h4 : v.x.key.data.toList.length = v.x.key.size := Array.length_toList
        rw [List.length_append, List.length_append] at h1
        omega
      clear hs6 hb6 k0 hl6 hT
      cases hd : v.x.dead
      · rw [hd] at k1
        have HD := Lib.hid hd
        obtain ⟨hq0, hq1, hpl, hpp⟩ := okC_alive OKV.out hd
        clear hd
        go_wp2_with fail
        obtain ⟨i0, hi0, hz0, hz1, hz2⟩ := info_parts info_u8
        refine wp_region_held_drew (S := fun w' => Fr (fun k => w6.heap.size ≤ k) w6.drew w') (by kernel_rfl) (Fr.refl _ _) (fun hHeld => ?_)
        clear hHeld
        refine wpAnyH_take (i := 0) (oi := ⟨some 35, _, _, _, _, _⟩) (v := ?vg0) rfl (by kernel_rfl) (by kernel_rfl) (by kernel_rfl) (fun _ _ _ h => h) (Or.inl ⟨by rfl, ?yg0⟩) (Fr.refl _ _) ?rg0
        case yg0 =>
          intro wq hSw
          (try dsimp only at hSw)
          first | (go_simp; done) | (go_simp; with_reducible rfl)
        try simp only [Act.put, List.setIfInBounds_toArray, List.set_cons_zero, List.set_cons_succ]
        refine wpAnyH_take (i := 3) (oi := ⟨some 38, _, _, _, _, _⟩) (v := ?vg3) rfl (by kernel_rfl) (by kernel_rfl) (by kernel_rfl) (fun _ _ _ h => h) (Or.inl ⟨by rfl, ?yg3⟩) (Fr.refl _ _) ?rg3
        case yg3 =>
          intro wq hSw
          (try dsimp only at hSw)
          first | (go_simp; done) | (go_simp; with_reducible rfl)
        try simp only [Act.put, List.setIfInBounds_toArray, List.set_cons_zero, List.set_cons_succ]
        refine wpAnyH_take (i := 4) (oi := ⟨some 39, _, _, _, _, _⟩) (v := .agg #[.slice v.A v.x.ps.length v.c, .int .u64 (v.x.g : Int), .int .i64 v.x.q]) rfl (by kernel_rfl) (by kernel_rfl) (by kernel_rfl) (fun _ _ _ h => h) (Or.inl ⟨by rfl, ?yg4⟩) (Fr.refl _ _) ?rg4
        case yg4 =>
          intro wq hSw
          exact step_loadBl17 rfl rfl (X6.out.fr ((Fr.of_below (Below.drew (Below.refl _ _))).trans hSw) (fun h => by have := block_lt X6.out; have h : w6.heap.size ≤ _ := h; omega))
        try simp only [Act.put, List.setIfInBounds_toArray, List.set_cons_zero, List.set_cons_succ]
        refine wpAnyH_ready (rs := [1]) (by kernel_rfl) (by simp) ?_
        refine AllReadyH.cons (o := ⟨some 36, _, _, _, _, _⟩) rfl (fun K hK => ?_) AllReadyH.nil
        go_simp
        rw [show (w6.alloc (.cells #[.int .u8 0] 5)).drew = w6.drew.alloc (.cells #[.int .u8 0] 5) from rfl]
        have hb7 : Below w6.drew.heap.size w6.drew (w6.drew.alloc (.cells #[.int .u8 0] 5)) := (Below.refl _ _).alloc (Nat.le_refl _) _
        have hs7 : Sl (w6.drew.alloc (.cells #[.int .u8 0] 5)) 1 (some ⟨w6.drew.heap.size, 0, none⟩) 1 1 (cells [0]) := Sl.one _ _ _ _ rfl
        obtain ⟨w7, hw7⟩ : ∃ x, x = w6.drew.alloc (.cells #[.int .u8 0] 5) := ⟨_, rfl⟩
        rw [← hw7] at hb7 hs7 ⊢
        clear hw7
        have hfr : Fr (fun k => w6.heap.size ≤ k) w6.drew w7 := Fr.of_below hb7
        have B7 := Lib.hid (B6.out.trans ((Below.drew (Below.refl _ _)).trans (hb7.mono B6.out.size)))
        have H7 := Lib.hid (show Below w6.heap.size w6 w7 from (Below.drew (Below.refl _ _)).trans hb7)
        have S7 := Lib.hid (S6.out.below ((Below.drew (Below.refl _ _)).trans hb7) (Nat.le_refl _))
        have U7 := Lib.hid hs7
        clear hb7 hs7
        refine hK.out _ _ hfr (fun hHeld => ?_)
        clear hK K hHeld
        try simp only [Act.put, List.setIfInBounds_toArray, List.set_cons_zero, List.set_cons_succ]
        refine wpAnyH_re (S' := fun w' => Fr (fun k => w6.heap.size ≤ k) w7 w') (fun w' h => hfr.trans h) ?_
        clear hfr
        refine wpAnyH_ready (rs := [2]) (by kernel_rfl) (by simp) ?_
        refine AllReadyH.cons (o := ⟨some 37, _, _, _, _, _⟩) rfl (fun K hK => ?_) AllReadyH.nil
        refine wp_append_any (o := ⟨some 37, _, _, _, _, _⟩) (.tmp 35) (.tmp 36) 26 26 rfl i0 (.int .u8 0) 1 Tryd.underlying26 hi0 hz0 hz1 hz2 rfl (by decide) rfl (Own.full S7.out) (Nat.le_refl _) 1 (cells [0]) _ rfl (U7.out.src Tryd.underlying26 (by decide) (cells_one _)) (by unfold maxLen; omega) (by omega) ?_
        intro A8 c8 w8 ho8 hb8
        have hfr : Fr (fun k => w6.heap.size ≤ k) w7 w8 := Fr.of_below hb8
        have B8 := Lib.hid (B7.out.trans (hb8.mono B7.out.size))
        have H8 := Lib.hid (H7.out.trans (hb8.mono H7.out.size))
        have S8 := Lib.hid ho8.sl
        clear ho8 hb8
        refine hK.out _ _ hfr (fun hHeld => ?_)
        clear hK K hHeld
        try simp only [Act.put, List.setIfInBounds_toArray, List.set_cons_zero, List.set_cons_succ]
        refine wpAnyH_re (S' := fun w' => Fr (fun k => w6.heap.size ≤ k) w8 w') (fun w' h => hfr.trans h) ?_
        clear hfr
        refine wpAnyH_ready (rs := [5]) (by kernel_rfl) (by simp) ?_
        refine AllReadyH.cons (o := ⟨some 40, _, _, _, _, _⟩) rfl (fun K hK => ?_) AllReadyH.nil
        go_simp
        have hs8 : Sl w8 1 A8 (n6 + 1) c8 (cells (T ++ venc 9 v.x.key.size ++ v.x.key.data.toList ++ [0])) := by rw [cells_append]; exact S8.out
        refine (putBytes17 A8 (n6 + 1) c8 _ v.A v.c v.x.g v.x.q v.x.ps (by omega) (by omega) ⟨hq0, by omega⟩ hgv (fun p hp => ⟨(hpp p hp).1, by have := (hpp p hp).2; omega⟩) w8 hs8 (V6.out.below H8.out)).mono ?_; rintro e w9 ⟨A9, n9, c9, rfl, hs9, hb9⟩
        have hfr : Fr (fun k => w6.heap.size ≤ k) w8 w9 := Fr.of_below hb9
        have B9 := Lib.hid (B8.out.trans (hb9.mono B8.out.size))
        have S9 := Lib.hid hs9
        clear hs8 hs9 hb9
        go_wp2_with fail
        refine hK.out _ _ hfr (fun hHeld => ?_)
        clear hK K hHeld
        try simp only [Act.put, List.setIfInBounds_toArray, List.set_cons_zero, List.set_cons_succ]
        refine wpAnyH_re (S' := fun w' => Fr (fun k => w6.heap.size ≤ k) w9 w') (fun w' h => hfr.trans h) ?_
        clear hfr
        refine wpAnyH_take (i := 6) (oi := ⟨some 4, _, _, _, _, _⟩) (v := ?vg6) rfl (by kernel_rfl) (by kernel_rfl) (by kernel_rfl) (fun _ _ _ h => h) (Or.inl ⟨by rfl, ?yg6⟩) (Fr.refl _ _) ?rg6
        case yg6 =>
          intro wq hSw
          (try dsimp only at hSw)
          first | (go_simp; done) | (go_simp; with_reducible rfl)
        try simp only [Act.put, List.setIfInBounds_toArray, List.set_cons_zero, List.set_cons_succ]
        refine wpAnyH_done (by kernel_rfl) ?_ _
        go_wp2_with fail
        go_roundw
        case rel =>
          have e9 : T ++ venc 9 v.x.key.size ++ v.x.key.data.toList ++ [0] ++ blobI v.x.q v.x.g v.x.ps = venc 9 st ++ venc 9 n ++ ((l.take (i + 1)).map CvF.x).flatMap chB := by
            rw [TK.out, HT.out, chB, HD.out, if_neg (by decide)]
            simp only [List.append_assoc, List.singleton_append]
          have h7 := S9.out
          rw [e9] at h7
          refine ⟨i + 1, A9, n9, c9, rfl, by go_num, by omega, h7, B9.out, ?_⟩
          have h8 := LN.out
          have h9 := CL.out
          rw [TK.out, ← List.append_assoc, ← HT.out, List.length_append]
          omega
        case measure => simp [intOf]; omega
      · rw [hd] at k1
        have HD := Lib.hid hd
        clear hd
        go_wp2_with (at_builtin; refine wpList_append_b (B := w6.heap.size) rfl (.tmp 32) (.tmp 33) rfl rfl (Own.full (S6.out.alloc _)) (by simp) (some ⟨w6.heap.size, 0, none⟩) 1 1 [1] rfl (Sl.one _ _ _ _ rfl) (by omega) ?_)
        intro A7 c7 w7 ho7 hb7
        have S7 := Lib.hid ho7.sl
        have B7 := Lib.hid (B6.out.trans (((Below.refl w6.heap.size w6).alloc (Nat.le_refl _) _ |>.trans hb7).mono B6.out.size))
        clear ho7 hb7
        go_wp2_with fail
        go_roundw
        case rel =>
          have e9 : T ++ venc 9 v.x.key.size ++ v.x.key.data.toList ++ [1] = venc 9 st ++ venc 9 n ++ ((l.take (i + 1)).map CvF.x).flatMap chB := by
            rw [TK.out, HT.out, chB, HD.out, if_pos rfl]
            simp only [List.append_assoc]
          have h7 : Sl w7 1 A7 (n6 + 1) c7 (cells (T ++ venc 9 v.x.key.size ++ v.x.key.data.toList ++ [1])) := by have h7 := S7.out; simp only [cells_append, List.append_assoc] at h7 ⊢; exact h7
          rw [e9] at h7
          refine ⟨i + 1, A7, n6 + 1, c7, rfl, by go_num, by omega, h7, B7.out, ?_⟩
          have h8 := LN.out
          have h9 := CL.out
          rw [TK.out, ← List.append_assoc, ← HT.out, List.length_append]
          omega
        case measure => simp [intOf]; omega
    · obtain rfl : n = i := by omega
      go_wp2_with fail
      go_ret2
      have h5 := S5.out
      rw [List.take_of_length_le (by rw [HC.out.len]; exact Nat.le_refl _)] at h5
      refine ⟨A5, n5, c5, rfl, ?_, BE.out⟩
      unfold putR
      rw [List.length_map, HC.out.len]
      exact h5
end Go.Proofs.YtpijfghklgmefaaDoor
