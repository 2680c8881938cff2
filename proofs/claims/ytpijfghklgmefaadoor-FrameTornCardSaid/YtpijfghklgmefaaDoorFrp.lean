/-
  The document's Same of two records of the same data. Conditions: bounds. (Written by gen_frp.py.)
-/
import Derived.Test.YtpijfghklgmefaaDoorFro
namespace Go.Proofs.YtpijfghklgmefaaDoor
open Go.RowKit Go.Proofs
set_option linter.unusedVariables false
set_option maxRecDepth 20000
set_option maxHeartbeats 3200000

theorem rblob_same (A : Option Addr) (n c g : Nat) (q : Int) (l : List Int) (A2 : Option Addr) (c2 : Nat) (w : World) (h : Sl w 1 A n c (icells l)) (h2 : Sl w 1 A2 n c2 (icells l)) :
    Calls Tryd.prog 41 #[.agg #[.slice A n c, .int .u64 (g : Int), .int .i64 q], .agg #[.slice A2 n c2, .int .u64 (g : Int), .int .i64 q]] w fun e w' => e = .returned (.bool true) ∧ Below w.heap.size w w' := by
  have hl := h.len
  rw [icells_length, Nat.mul_one] at hl
  have hlim := h.lim
  unfold maxLen at hlim
  have hxa : BlB (w.alloc (.cells #[.slice A n c, .int .u64 (g : Int), .int .i64 q] 55)) w.heap.size A n c g q := heap_alloc_new w _
  have hb1 : Below w.heap.size w (w.alloc (.cells #[.slice A n c, .int .u64 (g : Int), .int .i64 q] 55)) := (Below.refl _ _).alloc (Nat.le_refl _) _
  obtain ⟨w1, hw1⟩ : ∃ x, x = w.alloc (.cells #[.slice A n c, .int .u64 (g : Int), .int .i64 q] 55) := ⟨_, rfl⟩
  have HW1 := Lib.hid hw1
  rw [← hw1] at hxa hb1
  have hyb : BlB (w1.alloc (.cells #[.slice A2 n c2, .int .u64 (g : Int), .int .i64 q] 55)) w1.heap.size A2 n c2 g q := heap_alloc_new w1 _
  have hb2 : Below w1.heap.size w1 (w1.alloc (.cells #[.slice A2 n c2, .int .u64 (g : Int), .int .i64 q] 55)) := (Below.refl _ _).alloc (Nat.le_refl _) _
  obtain ⟨w2, hw2⟩ : ∃ x, x = w1.alloc (.cells #[.slice A2 n c2, .int .u64 (g : Int), .int .i64 q] 55) := ⟨_, rfl⟩
  have HW2 := Lib.hid hw2
  rw [← hw2] at hyb hb2
  have hx2 := hxa.later hb2
  have a0 := hx2.c0
  have a1 := hx2.c1
  have a2 := hx2.c2
  have d0 := hyb.c0
  have d1 := hyb.c1
  have d2 := hyb.c2
  have B2 := Lib.hid (hb1.trans (hb2.mono hb1.size))
  have X := Lib.hid hx2
  have Y := Lib.hid hyb
  have H := Lib.hid (h.below (hb1.trans (hb2.mono hb1.size)) (Nat.le_refl _))
  have H2 := Lib.hid (h2.below (hb1.trans (hb2.mono hb1.size)) (Nat.le_refl _))
  have HL := Lib.hid hl
  clear hxa hb1 hw1 hyb hb2 hw2 hx2 h h2 hl
  go_enter Tryd.func41, Tryd.ntmps41
  go_wp2_with (first | rw [← HW1.out] | rw [← HW2.out])
  go_loopw [5] (fun iv wr => ∃ j : Nat, iv = .int .i64 (j : Int) ∧ j ≤ n ∧ Below w2.heap.size w2 wr) (fun iv _ => n - (intOf iv).toNat)
  case atStart => exact ⟨0, rfl, by omega, Below.refl _ _⟩
  case round =>
    obtain ⟨j, rfl, hj, hbe⟩ := hrel
    have a0 := (X.out.later hbe).c0
    have d0 := (Y.out.later hbe).c0
    by_cases hlt : j < n
    · have hji : (j : Int) < (n : Int) := by omega
      have hjl : j < l.length := by rw [HL.out]; exact hlt
      obtain ⟨b, o, rfl, hc⟩ := (H.out.below hbe (Nat.le_refl _)).at_ hlt
      have e1 := hc j _ (icells_get l j hjl)
      obtain ⟨b2, o2, rfl, hc2⟩ := (H2.out.below hbe (Nat.le_refl _)).at_ hlt
      have e2 := hc2 j _ (icells_get l j hjl)
      obtain ⟨z, hz⟩ : ∃ z, z = l[j] := ⟨_, rfl⟩
      rw [← hz] at e1 e2
      have BE := Lib.hid hbe
      clear hc hc2 hz hbe
      go_wp2_with fail
      go_quiet (fail)
      go_wp2_with fail
      go_roundw
      case rel => exact ⟨j + 1, by go_num, by omega, below_drewN BE.out nq⟩
      case measure => simp [intOf]; omega
    · obtain rfl : n = j := by omega
      have BE := Lib.hid hbe
      clear hbe
      go_wp2_with fail
      go_ret
      exact ⟨rfl, B2.out.trans (BE.out.mono B2.out.size)⟩
theorem step_loadMid17 {P : Program} {ρ : Operand → Value} {o : Oper} {x : Operand} {w : World} {b k : Nat} {ty : TypeId} {cs : List Value} {d : TypeDesc} (ho : o.op = .load ty x) (hx : ρ x = .pointer (some ⟨b, k, none⟩)) (hc : w.rangeAt b k cs) (hu : P.underlying ty = some d) (hd : d.isRow = true) (hi : (P.info? ty).map (·.size) = some cs.length) : (execOp ρ o).run P w = .ok (.value (.agg cs.toArray)) w := by
  unfold execOp
  simp only [ho, hx, Instr.loadAt, Instr.sureAddr, Sem.run_bind, Sem.run_pure, Result.andThen_ok, run_loadVar_mid w b k ty cs d hc hu hd hi]
theorem CvB.blob {w : World} {B : Nat} {v : CvF} (h : CvB w B v) : w.rangeAt B 2 [.slice v.A v.x.ps.length v.c, .int .u64 (v.x.g : Int), .int .i64 v.x.q] := by
  intro j u hu
  rw [cell_of_row _ _ _ _ _ _ h]
  match j, hu with
  | 0, hu => exact hu
  | 1, hu => exact hu
  | 2, hu => exact hu
  | k + 3, hu => simp at hu
theorem rsame_rec (st : Nat) (A : Option Addr) (n c : Nat) (l : List CvF) (A2 : Option Addr) (c2 : Nat) (l2 : List CvF) (w : World) (h : Chs w A n c l) (h2 : Chs w A2 n c2 l2) (he : l2.map CvF.x = l.map CvF.x) :
    Calls Tryd.prog 14 #[.agg #[.int .u64 (st : Int), .slice A n c], .agg #[.int .u64 (st : Int), .slice A2 n c2]] w fun e w' => e = .returned (.bool true) ∧ Below w.heap.size w w' := by
  have hlim := h.cap
  have hlim2 := h.top
  unfold maxLen at hlim2
  have hxa := ReB.new (w := w) (st := st) (A := A) (n := n) (c := c)
  have hb1 : Below w.heap.size w (w.alloc (.cells #[.int .u64 (st : Int), .slice A n c] 25)) := (Below.refl _ _).alloc (Nat.le_refl _) _
  obtain ⟨w1, hw1⟩ : ∃ x, x = w.alloc (.cells #[.int .u64 (st : Int), .slice A n c] 25) := ⟨_, rfl⟩
  have HW1 := Lib.hid hw1
  rw [← hw1] at hxa hb1
  have hyb := ReB.new (w := w1) (st := st) (A := A2) (n := n) (c := c2)
  have hb2 : Below w1.heap.size w1 (w1.alloc (.cells #[.int .u64 (st : Int), .slice A2 n c2] 25)) := (Below.refl _ _).alloc (Nat.le_refl _) _
  obtain ⟨w2, hw2⟩ : ∃ x, x = w1.alloc (.cells #[.int .u64 (st : Int), .slice A2 n c2] 25) := ⟨_, rfl⟩
  have HW2 := Lib.hid hw2
  rw [← hw2] at hyb hb2
  have hx2 := hxa.later hb2
  have a0 := hx2.c0
  have a1 := hx2.c1
  have d0 := hyb.c0
  have d1 := hyb.c1
  have B2 := Lib.hid (hb1.trans (hb2.mono hb1.size))
  have X := Lib.hid hx2
  have Y := Lib.hid hyb
  have H := Lib.hid (h.below (hb1.trans (hb2.mono hb1.size)))
  have H2 := Lib.hid (h2.below (hb1.trans (hb2.mono hb1.size)))
  have HSL := Lib.hid (show ∀ v : CvF, (Tryd.prog.info? 57).map (·.size) = some v.vals.length from fun v => size_ch v)
  have HSB := Lib.hid (show (Tryd.prog.info? 55).map (·.size) = some 3 from by kernel_rfl)
  have HE := Lib.hid he
  clear hxa hb1 hw1 hyb hb2 hw2 hx2 h h2 he
  go_enter Tryd.func14, Tryd.ntmps14
  go_wp2_with (first | rw [← HW1.out] | rw [← HW2.out])
  go_loopw [5] (fun iv wr => ∃ j : Nat, iv = .int .i64 (j : Int) ∧ j ≤ n ∧ Below w2.heap.size w2 wr) (fun iv _ => n - (intOf iv).toNat)
  case atStart => exact ⟨0, rfl, by omega, Below.refl _ _⟩
  case round =>
    obtain ⟨j, rfl, hj, hbe⟩ := hrel
    have a0 := (X.out.later hbe).c1
    have d0 := (Y.out.later hbe).c1
    have XA := Lib.hid (X.out.later hbe)
    have YA := Lib.hid (Y.out.later hbe)
    by_cases hlt : j < n
    · have hji : (j : Int) < (n : Int) := by omega
      obtain ⟨v, hv⟩ : ∃ v, l[j]? = some v := ⟨_, List.getElem?_eq_getElem (by rw [H.out.len]; exact hlt)⟩
      obtain ⟨v2, hv2⟩ : ∃ v, l2[j]? = some v := ⟨_, List.getElem?_eq_getElem (by rw [H2.out.len]; exact hlt)⟩
      have hvx : v2.x = v.x := by
        have h1 : (l2.map CvF.x)[j]? = some v2.x := by rw [List.getElem?_map, hv2]; rfl
        have h3 : (l.map CvF.x)[j]? = some v.x := by rw [List.getElem?_map, hv]; rfl
        rw [HE.out, h3] at h1
        exact (Option.some.inj h1).symm
      obtain ⟨b, o, rfl, hcl, hok⟩ := (H.out.below hbe).cell j v hv
      obtain ⟨b2, o2, rfl, hcl2, hok2⟩ := (H2.out.below hbe).cell j v2 hv2
      have RA := Lib.hid (range_ch hcl)
      have RB := Lib.hid (range_ch hcl2)
      have NA := Lib.hid (World.block_lt_of_cell? wr _ (hcl 0 _ rfl))
      have NB := Lib.hid (World.block_lt_of_cell? wr _ (hcl2 0 _ rfl))
      have OA := Lib.hid hok
      have OB := Lib.hid hok2
      have BE := Lib.hid hbe
      obtain ⟨x2, PA2, pc2⟩ := v2
      obtain rfl : x2 = v.x := hvx
      clear hcl hok hcl2 hok2 hv hv2 hbe
      go_wp2_with fail
      have HSZ := size_ch
      refine wp_region_held_drew (S := fun w' => Fr (fun k => wr.heap.size ≤ k) wr w') (by kernel_rfl) (Fr.drew (Fr.refl _ _)) (fun hHeld => ?_)
      clear hHeld
      have hHeld : Fr (fun k => wr.heap.size ≤ k) wr wr.drew := Fr.drew (Fr.refl _ _)
      have hz_0 : wr.heap.size ≤ wr.drew.heap.size := Nat.le_refl _
      obtain ⟨v_1, hw⟩ : ∃ v_1, v_1 = wr.drew := ⟨_, rfl⟩
      rw [← hw] at hHeld hz_0  ⊢
      clear hw
      refine wpAnyH_take (i := 0) (oi := ⟨some 29, _, _, _, _, _⟩) (v := ?vg0_2) rfl (by kernel_rfl) (by kernel_rfl) (by kernel_rfl) (fun _ _ _ h => h) (Or.inl ⟨by rfl, ?yg0_2⟩) hHeld ?rg0_2
      case yg0_2 =>
        intro wq hSw
        (try dsimp only at hSw)
        first | (go_simp; done) | (go_simp; with_reducible rfl)
      try simp only [Act.put, List.setIfInBounds_toArray, List.set_cons_zero, List.set_cons_succ]
      refine wpAnyH_take (i := 1) (oi := ⟨some 30, _, _, _, _, _⟩) (v := ?vg1_3) rfl (by kernel_rfl) (by kernel_rfl) (by kernel_rfl) (fun _ _ _ h => h) (Or.inl ⟨by rfl, ?yg1_3⟩) hHeld ?rg1_3
      case yg1_3 =>
        intro wq hSw
        (try dsimp only at hSw)
        have hq := (XA.out.later (hSw.below (Nat.le_refl _) (fun b hb => hb))).c1
        first | (go_simp; done) | (go_simp; with_reducible rfl)
      try simp only [Act.put, List.setIfInBounds_toArray, List.set_cons_zero, List.set_cons_succ]
      refine wpAnyH_take (i := 2) (oi := ⟨some 31, _, _, _, _, _⟩) (v := ?vg2_4) rfl (by kernel_rfl) (by kernel_rfl) (by kernel_rfl) (fun _ _ _ h => h) (Or.inl ⟨by rfl, ?yg2_4⟩) hHeld ?rg2_4
      case yg2_4 =>
        intro wq hSw
        (try dsimp only at hSw)
        first | (go_simp; done) | (go_simp; with_reducible rfl)
      try simp only [Act.put, List.setIfInBounds_toArray, List.set_cons_zero, List.set_cons_succ]
      refine wpAnyH_take (i := 3) (oi := ⟨some 32, _, _, _, _, _⟩) (v := ?vg3_5) rfl (by kernel_rfl) (by kernel_rfl) (by kernel_rfl) (fun _ _ _ h => h) (Or.inl ⟨by rfl, ?yg3_5⟩) hHeld ?rg3_5
      case yg3_5 =>
        intro wq hSw
        (try dsimp only at hSw)
        first | (go_simp; done) | (go_simp; with_reducible rfl)
      try simp only [Act.put, List.setIfInBounds_toArray, List.set_cons_zero, List.set_cons_succ]
      refine wpAnyH_take (i := 4) (oi := ⟨some 33, _, _, _, _, _⟩) (v := (.agg (CvF.vals v).toArray)) rfl (by kernel_rfl) (by kernel_rfl) (by kernel_rfl) (fun _ _ _ h => h) (Or.inl ⟨by rfl, ?yg4_6⟩) hHeld ?rg4_6
      case yg4_6 =>
        intro wq hSw
        exact step_loadMid17 rfl rfl (fun j u hu => hSw.cell_some (RA.out j u hu) (Nat.not_le_of_lt NA.out)) Tryd.underlying57 rfl (HSL.out v)
      try simp only [Act.put, List.setIfInBounds_toArray, List.set_cons_zero, List.set_cons_succ]
      refine wpAnyH_take (i := 5) (oi := ⟨some 34, _, _, _, _, _⟩) (v := ?vg5_7) rfl (by kernel_rfl) (by kernel_rfl) (by kernel_rfl) (fun _ _ _ h => h) (Or.inl ⟨by rfl, ?yg5_7⟩) hHeld ?rg5_7
      case yg5_7 =>
        intro wq hSw
        (try dsimp only at hSw)
        first | (go_simp; done) | (go_simp; with_reducible rfl)
      try simp only [Act.put, List.setIfInBounds_toArray, List.set_cons_zero, List.set_cons_succ]
      refine wpAnyH_take (i := 6) (oi := ⟨some 35, _, _, _, _, _⟩) (v := ?vg6_8) rfl (by kernel_rfl) (by kernel_rfl) (by kernel_rfl) (fun _ _ _ h => h) (Or.inl ⟨by rfl, ?yg6_8⟩) hHeld ?rg6_8
      case yg6_8 =>
        intro wq hSw
        (try dsimp only at hSw)
        have hq := (YA.out.later (hSw.below (Nat.le_refl _) (fun b hb => hb))).c1
        first | (go_simp; done) | (go_simp; with_reducible rfl)
      try simp only [Act.put, List.setIfInBounds_toArray, List.set_cons_zero, List.set_cons_succ]
      refine wpAnyH_take (i := 7) (oi := ⟨some 36, _, _, _, _, _⟩) (v := ?vg7_9) rfl (by kernel_rfl) (by kernel_rfl) (by kernel_rfl) (fun _ _ _ h => h) (Or.inl ⟨by rfl, ?yg7_9⟩) hHeld ?rg7_9
      case yg7_9 =>
        intro wq hSw
        (try dsimp only at hSw)
        first | (go_simp; done) | (go_simp; with_reducible rfl)
      try simp only [Act.put, List.setIfInBounds_toArray, List.set_cons_zero, List.set_cons_succ]
      refine wpAnyH_take (i := 8) (oi := ⟨some 37, _, _, _, _, _⟩) (v := ?vg8_10) rfl (by kernel_rfl) (by kernel_rfl) (by kernel_rfl) (fun _ _ _ h => h) (Or.inl ⟨by rfl, ?yg8_10⟩) hHeld ?rg8_10
      case yg8_10 =>
        intro wq hSw
        (try dsimp only at hSw)
        first | (go_simp; done) | (go_simp; with_reducible rfl)
      try simp only [Act.put, List.setIfInBounds_toArray, List.set_cons_zero, List.set_cons_succ]
      refine wpAnyH_take (i := 9) (oi := ⟨some 38, _, _, _, _, _⟩) (v := (.agg (CvF.vals ⟨v.x, PA2, pc2⟩).toArray)) rfl (by kernel_rfl) (by kernel_rfl) (by kernel_rfl) (fun _ _ _ h => h) (Or.inl ⟨by rfl, ?yg9_11⟩) hHeld ?rg9_11
      case yg9_11 =>
        intro wq hSw
        exact step_loadMid17 rfl rfl (fun j u hu => hSw.cell_some (RB.out j u hu) (Nat.not_le_of_lt NB.out)) Tryd.underlying57 rfl (HSL.out ⟨v.x, PA2, pc2⟩)
      try simp only [Act.put, List.setIfInBounds_toArray, List.set_cons_zero, List.set_cons_succ]
      refine wpAnyH_ready (rs := [10, 11]) (by kernel_rfl) (by simp) ?_
      refine AllReadyH.cons (o := ⟨some 6, _, _, _, _, _⟩) rfl (fun K hK => ?_) (AllReadyH.cons (o := ⟨some 7, _, _, _, _, _⟩) rfl (fun K hK => ?_) (AllReadyH.nil))
      · obtain ⟨g6, hg6⟩ : ∃ g, g = v_1.heap.size := ⟨_, rfl⟩
        have hbN : Below v_1.heap.size v_1 (v_1.alloc (.cells (CvF.vals ⟨⟨⟨#[]⟩, false, [], 0, 0⟩, none, 0⟩).toArray 57)) := (Below.refl _ _).alloc (Nat.le_refl _) _
        have hx5 : CvB (v_1.alloc (.cells (CvF.vals ⟨⟨⟨#[]⟩, false, [], 0, 0⟩, none, 0⟩).toArray 57)) v_1.heap.size ⟨⟨⟨#[]⟩, false, [], 0, 0⟩, none, 0⟩ := CvB.new
        have hgl := block_lt hx5
        obtain ⟨v_12, hw⟩ : ∃ x, x = v_1.alloc (.cells (CvF.vals ⟨⟨⟨#[]⟩, false, [], 0, 0⟩, none, 0⟩).toArray 57) := ⟨_, rfl⟩
        show K _ (v_1.alloc (.cells (CvF.vals ⟨⟨⟨#[]⟩, false, [], 0, 0⟩, none, 0⟩).toArray 57))
        rw [← hw] at hbN hx5 hgl ⊢
        rw [← hg6] at hx5 hgl
        show K (Act.put _ _ (.pointer (some ⟨v_1.heap.size, 0, none⟩))) _
        rw [← hg6]
        have hfN : Fr (fun k => wr.heap.size ≤ k) v_1 v_12 := Fr.of_below hbN
        have Z6 := Lib.hid hx5
        have G6 := Lib.hid hgl
        have GE6 := Lib.hid (show wr.heap.size ≤ g6 from by rw [hg6]; exact hHeld.size)
        clear hx5 hgl hw hg6 hbN
        have hHeld := hHeld.trans hfN
        have hz_13 := hfN.size
        refine hK.out _ _ hHeld (fun _ => ?_)
        clear hK K hfN
        try simp only [Act.put, List.setIfInBounds_toArray, List.set_cons_zero, List.set_cons_succ]
        refine wpAnyH_ready (rs := [11]) (by kernel_rfl) (by simp) ?_
        refine AllReadyH.cons (o := ⟨some 7, _, _, _, _, _⟩) rfl (fun K hK => ?_) (AllReadyH.nil)
        obtain ⟨g7, hg7⟩ : ∃ g, g = v_12.heap.size := ⟨_, rfl⟩
        have hbN : Below v_12.heap.size v_12 (v_12.alloc (.cells (CvF.vals ⟨⟨⟨#[]⟩, false, [], 0, 0⟩, none, 0⟩).toArray 57)) := (Below.refl _ _).alloc (Nat.le_refl _) _
        have hx5 : CvB (v_12.alloc (.cells (CvF.vals ⟨⟨⟨#[]⟩, false, [], 0, 0⟩, none, 0⟩).toArray 57)) v_12.heap.size ⟨⟨⟨#[]⟩, false, [], 0, 0⟩, none, 0⟩ := CvB.new
        have hgl := block_lt hx5
        obtain ⟨v_14, hw⟩ : ∃ x, x = v_12.alloc (.cells (CvF.vals ⟨⟨⟨#[]⟩, false, [], 0, 0⟩, none, 0⟩).toArray 57) := ⟨_, rfl⟩
        show K _ (v_12.alloc (.cells (CvF.vals ⟨⟨⟨#[]⟩, false, [], 0, 0⟩, none, 0⟩).toArray 57))
        rw [← hw] at hbN hx5 hgl ⊢
        rw [← hg7] at hx5 hgl
        show K (Act.put _ _ (.pointer (some ⟨v_12.heap.size, 0, none⟩))) _
        rw [← hg7]
        have hfN : Fr (fun k => wr.heap.size ≤ k) v_12 v_14 := Fr.of_below hbN
        have Z7 := Lib.hid hx5
        have G7 := Lib.hid hgl
        have GE7 := Lib.hid (show wr.heap.size ≤ g7 from by rw [hg7]; exact hHeld.size)
        have Z6 := Lib.hid (Z6.out.later hbN)
        have NE := Lib.hid (show ¬ g6 = g7 from by have := G6.out; omega)
        clear hx5 hgl hw hg7 hbN
        have hHeld := hHeld.trans hfN
        have hz_15 := hfN.size
        refine hK.out _ _ hHeld (fun _ => ?_)
        clear hK K hfN
        try simp only [Act.put, List.setIfInBounds_toArray, List.set_cons_zero, List.set_cons_succ]
        refine wpAnyH_ready (rs := [12]) (by kernel_rfl) (by simp) ?_
        refine AllReadyH.cons (o := ⟨none, _, _, _, _, _⟩) rfl (fun K hK => ?_) (AllReadyH.nil)
        have hz := HSZ v
        have ho := one_ch v
        refine wp_store_row (o := ⟨none, _, _, _, _, _⟩) 57 (.tmp 6) (.tmp 33) rfl g6 _ rfl rfl 57 _ Z6.out hz rfl ho ?_
        obtain ⟨w6, hw⟩ : ∃ y, y = v_14.setRow g6 (CvF.vals v).toArray := ⟨_, rfl⟩
        have hx6 : CvB (v_14.setRow g6 (CvF.vals v).toArray) g6 v := setRow_heap _ _ _ _ _ _ Z6.out
        have hfx : Fr (fun k => k = g6) v_14 (v_14.setRow g6 (CvF.vals v).toArray) := Fr.setRow17 (S := fun k => k = g6) (Fr.refl _ _) (.inr rfl) _
        rw [← hw] at hfx hx6 ⊢
        have hfN : Fr (fun k => wr.heap.size ≤ k) v_14 w6 := hfx.mono (fun k h => by have h : k = g6 := h; show _ ≤ k; have := GE6.out; omega)
        have Y6 := Lib.hid hx6
        have Z7 := Lib.hid (Z7.out.fr (S := fun k => k = g6) hfx (fun h => NE.out (Eq.symm h)))
        clear hw hx6 hfx hz ho
        have hHeld := hHeld.trans hfN
        have hz_16 := hfN.size
        refine hK.out _ _ hHeld (fun _ => ?_)
        clear hK K hfN
        try simp only [Act.put]
        refine wpAnyH_ready (rs := [13]) (by kernel_rfl) (by simp) ?_
        refine AllReadyH.cons (o := ⟨none, _, _, _, _, _⟩) rfl (fun K hK => ?_) (AllReadyH.nil)
        have hz := HSZ ⟨v.x, PA2, pc2⟩
        have ho := one_ch ⟨v.x, PA2, pc2⟩
        refine wp_store_row (o := ⟨none, _, _, _, _, _⟩) 57 (.tmp 7) (.tmp 38) rfl g7 _ rfl rfl 57 _ Z7.out hz rfl ho ?_
        obtain ⟨w7, hw⟩ : ∃ y, y = w6.setRow g7 (CvF.vals ⟨v.x, PA2, pc2⟩).toArray := ⟨_, rfl⟩
        have hx6 : CvB (w6.setRow g7 (CvF.vals ⟨v.x, PA2, pc2⟩).toArray) g7 ⟨v.x, PA2, pc2⟩ := setRow_heap _ _ _ _ _ _ Z7.out
        have hfx : Fr (fun k => k = g7) w6 (w6.setRow g7 (CvF.vals ⟨v.x, PA2, pc2⟩).toArray) := Fr.setRow17 (S := fun k => k = g7) (Fr.refl _ _) (.inr rfl) _
        rw [← hw] at hfx hx6 ⊢
        have hfN : Fr (fun k => wr.heap.size ≤ k) w6 w7 := hfx.mono (fun k h => by have h : k = g7 := h; show _ ≤ k; have := GE7.out; omega)
        have Y7 := Lib.hid hx6
        have Y6 := Lib.hid (Y6.out.fr (S := fun k => k = g7) hfx (fun h => NE.out h))
        clear hw hx6 hfx hz ho
        have hHeld := hHeld.trans hfN
        have hz_17 := hfN.size
        refine hK.out _ _ hHeld (fun _ => ?_)
        clear hK K hfN
        try simp only [Act.put]
        refine wpAnyH_done (by kernel_rfl) ?_ _
        have hh := hHeld.below (Nat.le_refl _) (fun b hb => hb)
        have B6 := Lib.hid hh
        have e0 := Y6.out.c0
        have e1 := Y6.out.c1
        have f0 := Y7.out.c0
        have f1 := Y7.out.c1
        have SA := Lib.hid (show Sl w7 1 v.A v.x.ps.length v.c (icells v.x.ps) from OA.out.below hh)
        have SB := Lib.hid (show Sl w7 1 PA2 v.x.ps.length pc2 (icells v.x.ps) from OB.out.below hh)
        clear hHeld hh a0 d0
        go_wp2_with (first | (refine at_dst17 (d := 53) ?_; refine wpList_step17 (o := ⟨some 53, _, _, _, _, _⟩) (by rfl) _ _ (step_loadMid17 rfl rfl Y6.out.blob Tryd.underlying55 rfl HSB.out) ?_) | (refine at_dst17 (d := 55) ?_; refine wpList_step17 (o := ⟨some 55, _, _, _, _, _⟩) (by rfl) _ _ (step_loadMid17 rfl rfl Y7.out.blob Tryd.underlying55 rfl HSB.out) ?_))
        refine (rblob_same v.A v.x.ps.length v.c v.x.g v.x.q v.x.ps PA2 pc2 w7 SA.out SB.out).mono ?_; rintro e w8 ⟨rfl, hb8⟩
        have B8 := Lib.hid (BE.out.trans ((B6.out.trans (hb8.mono B6.out.size)).mono BE.out.size))
        clear hb8
        go_wp2_with fail
        go_roundw
        case rel => exact ⟨j + 1, by go_num, by omega, B8.out⟩
        case measure => simp [intOf]; omega
      · obtain ⟨g7, hg7⟩ : ∃ g, g = v_1.heap.size := ⟨_, rfl⟩
        have hbN : Below v_1.heap.size v_1 (v_1.alloc (.cells (CvF.vals ⟨⟨⟨#[]⟩, false, [], 0, 0⟩, none, 0⟩).toArray 57)) := (Below.refl _ _).alloc (Nat.le_refl _) _
        have hx5 : CvB (v_1.alloc (.cells (CvF.vals ⟨⟨⟨#[]⟩, false, [], 0, 0⟩, none, 0⟩).toArray 57)) v_1.heap.size ⟨⟨⟨#[]⟩, false, [], 0, 0⟩, none, 0⟩ := CvB.new
        have hgl := block_lt hx5
        obtain ⟨v_18, hw⟩ : ∃ x, x = v_1.alloc (.cells (CvF.vals ⟨⟨⟨#[]⟩, false, [], 0, 0⟩, none, 0⟩).toArray 57) := ⟨_, rfl⟩
        show K _ (v_1.alloc (.cells (CvF.vals ⟨⟨⟨#[]⟩, false, [], 0, 0⟩, none, 0⟩).toArray 57))
        rw [← hw] at hbN hx5 hgl ⊢
        rw [← hg7] at hx5 hgl
        show K (Act.put _ _ (.pointer (some ⟨v_1.heap.size, 0, none⟩))) _
        rw [← hg7]
        have hfN : Fr (fun k => wr.heap.size ≤ k) v_1 v_18 := Fr.of_below hbN
        have Z7 := Lib.hid hx5
        have G7 := Lib.hid hgl
        have GE7 := Lib.hid (show wr.heap.size ≤ g7 from by rw [hg7]; exact hHeld.size)
        clear hx5 hgl hw hg7 hbN
        have hHeld := hHeld.trans hfN
        have hz_19 := hfN.size
        refine hK.out _ _ hHeld (fun _ => ?_)
        clear hK K hfN
        try simp only [Act.put, List.setIfInBounds_toArray, List.set_cons_zero, List.set_cons_succ]
        refine wpAnyH_ready (rs := [10]) (by kernel_rfl) (by simp) ?_
        refine AllReadyH.cons (o := ⟨some 6, _, _, _, _, _⟩) rfl (fun K hK => ?_) (AllReadyH.nil)
        obtain ⟨g6, hg6⟩ : ∃ g, g = v_18.heap.size := ⟨_, rfl⟩
        have hbN : Below v_18.heap.size v_18 (v_18.alloc (.cells (CvF.vals ⟨⟨⟨#[]⟩, false, [], 0, 0⟩, none, 0⟩).toArray 57)) := (Below.refl _ _).alloc (Nat.le_refl _) _
        have hx5 : CvB (v_18.alloc (.cells (CvF.vals ⟨⟨⟨#[]⟩, false, [], 0, 0⟩, none, 0⟩).toArray 57)) v_18.heap.size ⟨⟨⟨#[]⟩, false, [], 0, 0⟩, none, 0⟩ := CvB.new
        have hgl := block_lt hx5
        obtain ⟨v_20, hw⟩ : ∃ x, x = v_18.alloc (.cells (CvF.vals ⟨⟨⟨#[]⟩, false, [], 0, 0⟩, none, 0⟩).toArray 57) := ⟨_, rfl⟩
        show K _ (v_18.alloc (.cells (CvF.vals ⟨⟨⟨#[]⟩, false, [], 0, 0⟩, none, 0⟩).toArray 57))
        rw [← hw] at hbN hx5 hgl ⊢
        rw [← hg6] at hx5 hgl
        show K (Act.put _ _ (.pointer (some ⟨v_18.heap.size, 0, none⟩))) _
        rw [← hg6]
        have hfN : Fr (fun k => wr.heap.size ≤ k) v_18 v_20 := Fr.of_below hbN
        have Z6 := Lib.hid hx5
        have G6 := Lib.hid hgl
        have GE6 := Lib.hid (show wr.heap.size ≤ g6 from by rw [hg6]; exact hHeld.size)
        have Z7 := Lib.hid (Z7.out.later hbN)
        have NE := Lib.hid (show ¬ g6 = g7 from by have := G7.out; omega)
        clear hx5 hgl hw hg6 hbN
        have hHeld := hHeld.trans hfN
        have hz_21 := hfN.size
        refine hK.out _ _ hHeld (fun _ => ?_)
        clear hK K hfN
        try simp only [Act.put, List.setIfInBounds_toArray, List.set_cons_zero, List.set_cons_succ]
        refine wpAnyH_ready (rs := [12]) (by kernel_rfl) (by simp) ?_
        refine AllReadyH.cons (o := ⟨none, _, _, _, _, _⟩) rfl (fun K hK => ?_) (AllReadyH.nil)
        have hz := HSZ v
        have ho := one_ch v
        refine wp_store_row (o := ⟨none, _, _, _, _, _⟩) 57 (.tmp 6) (.tmp 33) rfl g6 _ rfl rfl 57 _ Z6.out hz rfl ho ?_
        obtain ⟨w6, hw⟩ : ∃ y, y = v_20.setRow g6 (CvF.vals v).toArray := ⟨_, rfl⟩
        have hx6 : CvB (v_20.setRow g6 (CvF.vals v).toArray) g6 v := setRow_heap _ _ _ _ _ _ Z6.out
        have hfx : Fr (fun k => k = g6) v_20 (v_20.setRow g6 (CvF.vals v).toArray) := Fr.setRow17 (S := fun k => k = g6) (Fr.refl _ _) (.inr rfl) _
        rw [← hw] at hfx hx6 ⊢
        have hfN : Fr (fun k => wr.heap.size ≤ k) v_20 w6 := hfx.mono (fun k h => by have h : k = g6 := h; show _ ≤ k; have := GE6.out; omega)
        have Y6 := Lib.hid hx6
        have Z7 := Lib.hid (Z7.out.fr (S := fun k => k = g6) hfx (fun h => NE.out (Eq.symm h)))
        clear hw hx6 hfx hz ho
        have hHeld := hHeld.trans hfN
        have hz_22 := hfN.size
        refine hK.out _ _ hHeld (fun _ => ?_)
        clear hK K hfN
        try simp only [Act.put]
        refine wpAnyH_ready (rs := [13]) (by kernel_rfl) (by simp) ?_
        refine AllReadyH.cons (o := ⟨none, _, _, _, _, _⟩) rfl (fun K hK => ?_) (AllReadyH.nil)
        have hz := HSZ ⟨v.x, PA2, pc2⟩
        have ho := one_ch ⟨v.x, PA2, pc2⟩
        refine wp_store_row (o := ⟨none, _, _, _, _, _⟩) 57 (.tmp 7) (.tmp 38) rfl g7 _ rfl rfl 57 _ Z7.out hz rfl ho ?_
        obtain ⟨w7, hw⟩ : ∃ y, y = w6.setRow g7 (CvF.vals ⟨v.x, PA2, pc2⟩).toArray := ⟨_, rfl⟩
        have hx6 : CvB (w6.setRow g7 (CvF.vals ⟨v.x, PA2, pc2⟩).toArray) g7 ⟨v.x, PA2, pc2⟩ := setRow_heap _ _ _ _ _ _ Z7.out
        have hfx : Fr (fun k => k = g7) w6 (w6.setRow g7 (CvF.vals ⟨v.x, PA2, pc2⟩).toArray) := Fr.setRow17 (S := fun k => k = g7) (Fr.refl _ _) (.inr rfl) _
        rw [← hw] at hfx hx6 ⊢
        have hfN : Fr (fun k => wr.heap.size ≤ k) w6 w7 := hfx.mono (fun k h => by have h : k = g7 := h; show _ ≤ k; have := GE7.out; omega)
        have Y7 := Lib.hid hx6
        have Y6 := Lib.hid (Y6.out.fr (S := fun k => k = g7) hfx (fun h => NE.out h))
        clear hw hx6 hfx hz ho
        have hHeld := hHeld.trans hfN
        have hz_23 := hfN.size
        refine hK.out _ _ hHeld (fun _ => ?_)
        clear hK K hfN
        try simp only [Act.put]
        refine wpAnyH_done (by kernel_rfl) ?_ _
        have hh := hHeld.below (Nat.le_refl _) (fun b hb => hb)
        have B6 := Lib.hid hh
        have e0 := Y6.out.c0
        have e1 := Y6.out.c1
        have f0 := Y7.out.c0
        have f1 := Y7.out.c1
        have SA := Lib.hid (show Sl w7 1 v.A v.x.ps.length v.c (icells v.x.ps) from OA.out.below hh)
        have SB := Lib.hid (show Sl w7 1 PA2 v.x.ps.length pc2 (icells v.x.ps) from OB.out.below hh)
        clear hHeld hh a0 d0
        go_wp2_with (first | (refine at_dst17 (d := 53) ?_; refine wpList_step17 (o := ⟨some 53, _, _, _, _, _⟩) (by rfl) _ _ (step_loadMid17 rfl rfl Y6.out.blob Tryd.underlying55 rfl HSB.out) ?_) | (refine at_dst17 (d := 55) ?_; refine wpList_step17 (o := ⟨some 55, _, _, _, _, _⟩) (by rfl) _ _ (step_loadMid17 rfl rfl Y7.out.blob Tryd.underlying55 rfl HSB.out) ?_))
        refine (rblob_same v.A v.x.ps.length v.c v.x.g v.x.q v.x.ps PA2 pc2 w7 SA.out SB.out).mono ?_; rintro e w8 ⟨rfl, hb8⟩
        have B8 := Lib.hid (BE.out.trans ((B6.out.trans (hb8.mono B6.out.size)).mono BE.out.size))
        clear hb8
        go_wp2_with fail
        go_roundw
        case rel => exact ⟨j + 1, by go_num, by omega, B8.out⟩
        case measure => simp [intOf]; omega
    · obtain rfl : n = j := by omega
      have BE := Lib.hid hbe
      clear hbe
      go_wp2_with fail
      go_ret
      exact ⟨rfl, B2.out.trans (BE.out.mono B2.out.size)⟩
end Go.Proofs.YtpijfghklgmefaaDoor
