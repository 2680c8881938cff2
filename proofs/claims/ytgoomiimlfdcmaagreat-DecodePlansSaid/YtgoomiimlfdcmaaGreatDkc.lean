/-
  Contracts of the document's times and less of layer 6: equations, a slice of factors and one of bytes each. No condition but bounds.
-/
import Derived.Test.YtgoomiimlfdcmaaGreatGe
import Derived.Test.YtgoomiimlfdcmaaGreatCaa
namespace Go.Proofs.YtgoomiimlfdcmaaGreat
open Go.RowKit Go.Proofs
set_option linter.unusedVariables false

/-- A value that reads as an equation: factors f, bytes r. -/
def EqV (w : World) (v : Value) (f r : List UInt8) : Prop := ∃ A n c A2 n2 c2, v = .agg #[.slice A n c, .slice A2 n2 c2] ∧ Sl w 1 A n c (cells f) ∧ Sl w 1 A2 n2 c2 (cells r)
theorem EqV.later {w w' : World} {v : Value} {f r : List UInt8} (h : EqV w v f r) (hb : Below w.heap.size w w') : EqV w' v f r := by
  obtain ⟨A, n, c, A2, n2, c2, e, h1, h2⟩ := h
  exact ⟨A, n, c, A2, n2, c2, e, h1.below hb (Nat.le_refl _), h2.below hb (Nat.le_refl _)⟩
/-- Bytes don't lie in a box of slices. -/
theorem sl_ne_eq {w : World} {A : Option Addr} {n c g : Nat} {l : List UInt8} {t : TypeId} {a b : Option Addr} {i j x y : Nat} (h : Sl w 1 A n c (cells l)) (hg : w.heap[g]? = some (.cells #[.slice a i x, .slice b j y] t (0, 0))) {d o : Nat} (hn : 0 < n) (hA : A = some ⟨d, o, none⟩) : d ≠ g := by
  rintro rfl
  obtain ⟨b', o', e, hc⟩ := h.at_ hn
  rw [hA] at e
  injection e with e
  injection e with e1 e2
  subst e1; subst e2
  have hl := h.len
  rw [cells_length, Nat.mul_one] at hl
  have h0 := hc 0 _ (cells_get l 0 (by omega))
  rw [cell_of_row _ _ _ _ _ _ hg, Nat.add_zero] at h0
  rcases o with _ | _ | o
  · simp [bv] at h0
  · simp [bv] at h0
  · simp at h0
theorem size_eq : (Tryz.prog.info? 83).map (·.size) = some 2 := by kernel_rfl
/-- What a call answers that makes an equation. -/
def RetEq (f r : List UInt8) (w : World) (e : Ending) (w' : World) : Prop := (∃ v, e = .returned v ∧ EqV w' v f r) ∧ Below w.heap.size w w'

set_option maxRecDepth 20000 in
set_option maxHeartbeats 1600000 in
theorem times_any (c : UInt8) (A : Option Addr) (n cp : Nat) (f : List UInt8) (A2 : Option Addr) (n2 cp2 : Nat) (r : List UInt8) (w : World) (hf : Sl w 1 A n cp (cells f)) (hr : Sl w 1 A2 n2 cp2 (cells r)) (hn : n ≤ 1048576) (hn2 : n2 ≤ 1048576) :
    Calls Tryz.prog 55 #[.int .u8 (c.toNat : Int), .agg #[.slice A n cp, .slice A2 n2 cp2]] w (RetEq (f.map (gm c)) (r.map (gm c)) w) := by
  have Hf := Lib.hid hf; clear hf
  have Hr := Lib.hid hr; clear hr
  go_enter Tryz.func55, Tryz.ntmps55
  go_upto_region 1 with (fail)
  have HW0 := Lib.hid (show Below w.heap.size w ((w.alloc (.cells #[.slice A n cp, .slice A2 n2 cp2] 83)).alloc (.cells #[.slice none 0 0, .slice none 0 0] 83)) from ((Below.refl _ _).alloc (Nat.le_refl _) _).alloc (by simp) _)
  have hx0 := alloc2_old w (.cells #[.slice A n cp, .slice A2 n2 cp2] 83) (.cells #[.slice none 0 0, .slice none 0 0] 83)
  have hx1 := alloc2_new w (.cells #[.slice A n cp, .slice A2 n2 cp2] 83) (.cells #[.slice none 0 0, .slice none 0 0] 83)
  obtain ⟨w2, hw2⟩ : ∃ x, x = (w.alloc (.cells #[.slice A n cp, .slice A2 n2 cp2] 83)).alloc (.cells #[.slice none 0 0, .slice none 0 0] 83) := ⟨_, rfl⟩
  rw [← hw2] at HW0 hx0 hx1 ⊢
  clear hw2
  obtain ⟨g0, hg0⟩ : ∃ x, x = w.heap.size := ⟨_, rfl⟩
  obtain ⟨g1, hg1⟩ : ∃ x, x = w.heap.size + 1 := ⟨_, rfl⟩
  have hle0 : w.heap.size ≤ g0 := by omega
  have hle1 : w.heap.size ≤ g1 := by omega
  have hne : ¬ g0 = g1 := by omega
  rw [← hg0] at hx0
  rw [← hg1] at hx1 ⊢
  rw [← hg0]
  clear hg0 hg1
  have c0 : w2.cell? ⟨g0, 0, none⟩ = some (.slice A n cp) := by rw [cell_of_row _ _ _ _ _ _ hx0]; rfl
  have c1 : w2.cell? ⟨g0, 1, none⟩ = some (.slice A2 n2 cp2) := by rw [cell_of_row _ _ _ _ _ _ hx0]; rfl
  have K0 := Lib.hid c0; have K1 := Lib.hid c1
  have HB1 := Lib.hid hx1
  clear hx0 hx1 c0 c1
  have HWd := Lib.hid (HW0.out.trans ((Below.drew (Below.refl _ _)).mono HW0.out.size))
  have HBd := Lib.hid (show w2.drew.heap[g1]? = some (.cells #[.slice none 0 0, .slice none 0 0] 83 (0, 0)) from HB1.out)
  clear HW0 HB1
  refine wp_region_held_drew (S := fun w' => Fr (fun k => k = g1) w2 w') (by kernel_rfl) (Fr.drew (Fr.refl _ _)) (fun hHeld => ?_)
  clear hHeld
  have hHeld : Fr (fun k => k = g1) w2 w2.drew := Fr.drew (Fr.refl _ _)
  have hz_0 : w2.heap.size ≤ w2.drew.heap.size := Nat.le_refl _
  obtain ⟨v_1, hw⟩ : ∃ v_1, v_1 = w2.drew := ⟨_, rfl⟩
  rw [← hw] at hHeld hz_0 HWd HBd ⊢
  clear hw
  refine wpAnyH_take (i := 0) (oi := ⟨some 5, _, _, _, _, _⟩) (v := ?vg0_2) rfl (by kernel_rfl) (by kernel_rfl) (by kernel_rfl) (fun _ _ _ h => h) (Or.inl ⟨by rfl, ?yg0_2⟩) hHeld ?rg0_2
  case yg0_2 =>
    intro wq hSw
    (try dsimp only at hSw)
    first | (go_simp; done) | (go_simp; with_reducible rfl)
  try simp only [Act.put, List.setIfInBounds_toArray, List.set_cons_zero, List.set_cons_succ]
  refine wpAnyH_take (i := 1) (oi := ⟨some 6, _, _, _, _, _⟩) (v := ?vg1_3) rfl (by kernel_rfl) (by kernel_rfl) (by kernel_rfl) (fun _ _ _ h => h) (Or.inl ⟨by rfl, ?yg1_3⟩) hHeld ?rg1_3
  case yg1_3 =>
    intro wq hSw
    (try dsimp only at hSw)
    first | (go_simp; done) | (go_simp; with_reducible rfl)
  try simp only [Act.put, List.setIfInBounds_toArray, List.set_cons_zero, List.set_cons_succ]
  refine wpAnyH_take (i := 2) (oi := ⟨some 7, _, _, _, _, _⟩) (v := ?vg2_4) rfl (by kernel_rfl) (by kernel_rfl) (by kernel_rfl) (fun _ _ _ h => h) (Or.inl ⟨by rfl, ?yg2_4⟩) hHeld ?rg2_4
  case yg2_4 =>
    intro wq hSw
    (try dsimp only at hSw)
    have q0 := hSw.cell_some K0.out (by show ¬ g0 = g1; omega)
    first | (go_simp; done) | (go_simp; with_reducible rfl)
  try simp only [Act.put, List.setIfInBounds_toArray, List.set_cons_zero, List.set_cons_succ]
  refine wpAnyH_take (i := 4) (oi := ⟨some 9, _, _, _, _, _⟩) (v := ?vg4_5) rfl (by kernel_rfl) (by kernel_rfl) (by kernel_rfl) (fun _ _ _ h => h) (Or.inl ⟨by rfl, ?yg4_5⟩) hHeld ?rg4_5
  case yg4_5 =>
    intro wq hSw
    (try dsimp only at hSw)
    first | (go_simp; done) | (go_simp; with_reducible rfl)
  try simp only [Act.put, List.setIfInBounds_toArray, List.set_cons_zero, List.set_cons_succ]
  refine wpAnyH_take (i := 5) (oi := ⟨some 10, _, _, _, _, _⟩) (v := ?vg5_6) rfl (by kernel_rfl) (by kernel_rfl) (by kernel_rfl) (fun _ _ _ h => h) (Or.inl ⟨by rfl, ?yg5_6⟩) hHeld ?rg5_6
  case yg5_6 =>
    intro wq hSw
    (try dsimp only at hSw)
    first | (go_simp; done) | (go_simp; with_reducible rfl)
  try simp only [Act.put, List.setIfInBounds_toArray, List.set_cons_zero, List.set_cons_succ]
  refine wpAnyH_take (i := 6) (oi := ⟨some 11, _, _, _, _, _⟩) (v := ?vg6_7) rfl (by kernel_rfl) (by kernel_rfl) (by kernel_rfl) (fun _ _ _ h => h) (Or.inl ⟨by rfl, ?yg6_7⟩) hHeld ?rg6_7
  case yg6_7 =>
    intro wq hSw
    (try dsimp only at hSw)
    have q0 := hSw.cell_some K1.out (by show ¬ g0 = g1; omega)
    first | (go_simp; done) | (go_simp; with_reducible rfl)
  try simp only [Act.put, List.setIfInBounds_toArray, List.set_cons_zero, List.set_cons_succ]
  refine wpAnyH_ready (rs := [3]) (by kernel_rfl) (by simp) ?_
  refine AllReadyH.cons (o := ⟨some 8, _, _, _, _, _⟩) rfl (fun K hK => ?_) (AllReadyH.nil)
  go_simp
  have hh := rscale_any c A n cp f v_1 (Hf.out.below HWd.out (Nat.le_refl _)) (by omega)
  refine hh.mono ?_; clear hh; rintro e v_8 ⟨B0, m0, d0, rfl, hs, hbN⟩
  have hfN : Fr (fun k => k = g1) v_1 v_8 := Fr.of_below hbN
  have hb1_9 := Lib.hid ((hbN.block _ (block_lt HBd.out)).trans HBd.out)
  have bel_10 := Lib.hid (HWd.out.trans (hbN.mono HWd.out.size))
  have S0 := Lib.hid hs
  clear hs hbN
  go_wp2_with fail
  have hHeld := hHeld.trans hfN
  have hz_11 := hfN.size
  refine hK.out _ _ hHeld (fun _ => ?_)
  clear hK K hfN
  try simp only [Act.put, List.setIfInBounds_toArray, List.set_cons_zero, List.set_cons_succ]
  refine wpAnyH_ready (rs := [7]) (by kernel_rfl) (by simp) ?_
  refine AllReadyH.cons (o := ⟨some 12, _, _, _, _, _⟩) rfl (fun K hK => ?_) (AllReadyH.nil)
  go_simp
  have hh := rscale_any c A2 n2 cp2 r v_8 (Hr.out.below bel_10.out (Nat.le_refl _)) (by omega)
  refine hh.mono ?_; clear hh; rintro e v_12 ⟨B1, m1, d1, rfl, hs, hbN⟩
  have hfN : Fr (fun k => k = g1) v_8 v_12 := Fr.of_below hbN
  have hb1_13 := Lib.hid ((hbN.block _ (block_lt hb1_9.out)).trans hb1_9.out)
  have bel_14 := Lib.hid (bel_10.out.trans (hbN.mono bel_10.out.size))
  have S0' := Lib.hid (S0.out.below hbN (Nat.le_refl _))
  clear S0
  have S1 := Lib.hid hs
  clear hs hbN
  go_wp2_with fail
  have hHeld := hHeld.trans hfN
  have hz_15 := hfN.size
  refine hK.out _ _ hHeld (fun _ => ?_)
  clear hK K hfN
  try simp only [Act.put, List.setIfInBounds_toArray, List.set_cons_zero, List.set_cons_succ]
  refine wpAnyH_take (i := 8) (oi := ⟨some 13, _, _, _, _, _⟩) (v := ?vg8_16) rfl (by kernel_rfl) (by kernel_rfl) (by kernel_rfl) (fun _ _ _ h => h) (Or.inl ⟨by rfl, ?yg8_16⟩) hHeld ?rg8_16
  case yg8_16 =>
    intro wq hSw
    (try dsimp only at hSw)
    first | (go_simp; done) | (go_simp; with_reducible rfl)
  try simp only [Act.put, List.setIfInBounds_toArray, List.set_cons_zero, List.set_cons_succ]
  refine wpAnyH_ready (rs := [9]) (by kernel_rfl) (by simp) ?_
  refine AllReadyH.cons (o := ⟨none, _, _, _, _, _⟩) rfl (fun K hK => ?_) (AllReadyH.nil)
  have z0 : v_12.cell? ⟨g1, 0, none⟩ = some (.slice none 0 0) := by rw [cell_of_row _ _ _ _ _ _ hb1_13.out]; rfl
  have y0 : v_12.frozen? ⟨g1, 0, none⟩ = false := frozen_of_row _ _ _ _ _ hb1_13.out
  have z1 : v_12.cell? ⟨g1, 1, none⟩ = some (.slice none 0 0) := by rw [cell_of_row _ _ _ _ _ _ hb1_13.out]; rfl
  have y1 : v_12.frozen? ⟨g1, 1, none⟩ = false := frozen_of_row _ _ _ _ _ hb1_13.out
  go_simp
  have e0 := heap_setCell_same v_12 g1 0 _ _ (.slice B0 m0 d0) hb1_13.out
  have e1 := heap_setCell_same _ g1 1 _ _ (.slice B1 m1 d1) e0
  have hfN : Fr (fun k => k = g1) v_12 ((v_12.setCell ⟨g1, 0, none⟩ (.slice B0 m0 d0)).setCell ⟨g1, 1, none⟩ (.slice B1 m1 d1)) := (Fr.setCell (S := fun k => k = g1) (Fr.refl _ _) (.inr rfl) _).setCell (.inr rfl) _
  obtain ⟨v_17, hw⟩ : ∃ x, x = (v_12.setCell ⟨g1, 0, none⟩ (.slice B0 m0 d0)).setCell ⟨g1, 1, none⟩ (.slice B1 m1 d1) := ⟨_, rfl⟩
  rw [← hw] at hfN e1 ⊢
  clear hw z0 z1 y0 y1 e0
  have HE := Lib.hid e1; clear e1
  have T0 := Lib.hid (S0'.out.fr hfN (fun b o hn hA hk => sl_ne_eq S0'.out hb1_13.out hn hA hk))
  have T1 := Lib.hid (S1.out.fr hfN (fun b o hn hA hk => sl_ne_eq S1.out hb1_13.out hn hA hk))
  have HBel := Lib.hid (bel_14.out.trans (hfN.below (B := w.heap.size) (by have := bel_14.out.size; omega) (fun k hk => by have hk : k = g1 := hk; omega)))
  have hHeld := hHeld.trans hfN
  have hz_18 := hfN.size
  refine hK.out _ _ hHeld (fun _ => ?_)
  clear hK K hfN
  try simp only [Act.put, List.setIfInBounds_toArray, List.set_cons_zero, List.set_cons_succ]
  refine wpAnyH_done (by kernel_rfl) ?_ _
  go_wp2_with fail
  refine bodyPost_ret (results_cell_row Tryz.results55 _ _ g1 83 _ (0, 0) _ rfl HE.out Tryz.underlying83 rfl size_eq) rfl ?_
  exact ⟨⟨_, rfl, B0, m0, d0, B1, m1, d1, rfl, T0.out, T1.out⟩, HBel.out⟩

set_option maxRecDepth 20000 in
set_option maxHeartbeats 1600000 in
theorem less_any (c : UInt8) (A : Option Addr) (n cp : Nat) (f : List UInt8) (A2 : Option Addr) (n2 cp2 : Nat) (r : List UInt8) (X : Option Addr) (x xp : Nat) (h : List UInt8) (X2 : Option Addr) (x2 xp2 : Nat) (s : List UInt8) (w : World)
    (hf : Sl w 1 A n cp (cells f)) (hr : Sl w 1 A2 n2 cp2 (cells r)) (hh : Sl w 1 X x xp (cells h)) (hs : Sl w 1 X2 x2 xp2 (cells s)) (hn : n ≤ 1048576) (hn2 : n2 ≤ 1048576) :
    Calls Tryz.prog 56 #[.agg #[.slice A n cp, .slice A2 n2 cp2], .int .u8 (c.toNat : Int), .agg #[.slice X x xp, .slice X2 x2 xp2]] w (RetEq (fld c h f) (fld c s r) w) := by
  have Hf := Lib.hid hf; clear hf
  have Hr := Lib.hid hr; clear hr
  have Hh := Lib.hid hh; clear hh
  have Hs := Lib.hid hs; clear hs
  go_enter Tryz.func56, Tryz.ntmps56
  go_upto_region 1 with (fail)
  have HW0 := Lib.hid (show Below w.heap.size w (((w.alloc (.cells #[.slice A n cp, .slice A2 n2 cp2] 83)).alloc (.cells #[.slice X x xp, .slice X2 x2 xp2] 83)).alloc (.cells #[.slice none 0 0, .slice none 0 0] 83)) from (((Below.refl _ _).alloc (Nat.le_refl _) _).alloc (by simp) _).alloc (by simp; omega) _)
  have hx0 : (((w.alloc (.cells #[.slice A n cp, .slice A2 n2 cp2] 83)).alloc (.cells #[.slice X x xp, .slice X2 x2 xp2] 83)).alloc (.cells #[.slice none 0 0, .slice none 0 0] 83)).heap[w.heap.size]? = _ := (Below.heap_alloc _ _ _ (by simp; omega)).trans (alloc2_old w (.cells #[.slice A n cp, .slice A2 n2 cp2] 83) (.cells #[.slice X x xp, .slice X2 x2 xp2] 83))
  have hx2 := alloc2_old (w.alloc (.cells #[.slice A n cp, .slice A2 n2 cp2] 83)) (.cells #[.slice X x xp, .slice X2 x2 xp2] 83) (.cells #[.slice none 0 0, .slice none 0 0] 83)
  have hx1 := alloc2_new (w.alloc (.cells #[.slice A n cp, .slice A2 n2 cp2] 83)) (.cells #[.slice X x xp, .slice X2 x2 xp2] 83) (.cells #[.slice none 0 0, .slice none 0 0] 83)
  rw [show (w.alloc (.cells #[.slice A n cp, .slice A2 n2 cp2] 83)).heap.size = w.heap.size + 1 from by simp] at hx2 hx1
  obtain ⟨w2, hw2⟩ : ∃ x', x' = ((w.alloc (.cells #[.slice A n cp, .slice A2 n2 cp2] 83)).alloc (.cells #[.slice X x xp, .slice X2 x2 xp2] 83)).alloc (.cells #[.slice none 0 0, .slice none 0 0] 83) := ⟨_, rfl⟩
  rw [← hw2] at HW0 hx0 hx1 hx2 ⊢
  clear hw2
  obtain ⟨g0, hg0⟩ : ∃ x', x' = w.heap.size := ⟨_, rfl⟩
  obtain ⟨g2, hg2⟩ : ∃ x', x' = w.heap.size + 1 := ⟨_, rfl⟩
  obtain ⟨g1, hg1⟩ : ∃ x', x' = w.heap.size + 1 + 1 := ⟨_, rfl⟩
  have hle0 : w.heap.size ≤ g0 := by omega
  have hle1 : w.heap.size ≤ g1 := by omega
  have hne : ¬ g0 = g1 := by omega
  have hne2 : ¬ g2 = g1 := by omega
  rw [← hg0] at hx0
  rw [← hg2] at hx2
  rw [← hg1] at hx1 ⊢
  rw [← hg2, ← hg0]
  clear hg0 hg1 hg2
  have c0 : w2.cell? ⟨g0, 0, none⟩ = some (.slice A n cp) := by rw [cell_of_row _ _ _ _ _ _ hx0]; rfl
  have c1 : w2.cell? ⟨g0, 1, none⟩ = some (.slice A2 n2 cp2) := by rw [cell_of_row _ _ _ _ _ _ hx0]; rfl
  have c2 : w2.cell? ⟨g2, 0, none⟩ = some (.slice X x xp) := by rw [cell_of_row _ _ _ _ _ _ hx2]; rfl
  have c3 : w2.cell? ⟨g2, 1, none⟩ = some (.slice X2 x2 xp2) := by rw [cell_of_row _ _ _ _ _ _ hx2]; rfl
  have K0 := Lib.hid c0; have K1 := Lib.hid c1; have K2 := Lib.hid c2; have K3 := Lib.hid c3
  have HB1 := Lib.hid hx1
  clear hx0 hx1 hx2 c0 c1 c2 c3
  have HWd := Lib.hid (HW0.out.trans ((Below.drew (Below.refl _ _)).mono HW0.out.size))
  have HBd := Lib.hid (show w2.drew.heap[g1]? = some (.cells #[.slice none 0 0, .slice none 0 0] 83 (0, 0)) from HB1.out)
  clear HW0 HB1
  refine wp_region_held_drew (S := fun w' => Fr (fun k => k = g1) w2 w') (by kernel_rfl) (Fr.drew (Fr.refl _ _)) (fun hHeld => ?_)
  clear hHeld
  have hHeld : Fr (fun k => k = g1) w2 w2.drew := Fr.drew (Fr.refl _ _)
  have hz_0 : w2.heap.size ≤ w2.drew.heap.size := Nat.le_refl _
  obtain ⟨v_1, hw⟩ : ∃ v_1, v_1 = w2.drew := ⟨_, rfl⟩
  rw [← hw] at hHeld hz_0 HWd HBd ⊢
  clear hw
  refine wpAnyH_take (i := 0) (oi := ⟨some 7, _, _, _, _, _⟩) (v := ?vg0_2) rfl (by kernel_rfl) (by kernel_rfl) (by kernel_rfl) (fun _ _ _ h => h) (Or.inl ⟨by rfl, ?yg0_2⟩) hHeld ?rg0_2
  case yg0_2 =>
    intro wq hSw
    (try dsimp only at hSw)
    first | (go_simp; done) | (go_simp; with_reducible rfl)
  try simp only [Act.put, List.setIfInBounds_toArray, List.set_cons_zero, List.set_cons_succ]
  refine wpAnyH_take (i := 1) (oi := ⟨some 8, _, _, _, _, _⟩) (v := ?vg1_3) rfl (by kernel_rfl) (by kernel_rfl) (by kernel_rfl) (fun _ _ _ h => h) (Or.inl ⟨by rfl, ?yg1_3⟩) hHeld ?rg1_3
  case yg1_3 =>
    intro wq hSw
    (try dsimp only at hSw)
    first | (go_simp; done) | (go_simp; with_reducible rfl)
  try simp only [Act.put, List.setIfInBounds_toArray, List.set_cons_zero, List.set_cons_succ]
  refine wpAnyH_take (i := 2) (oi := ⟨some 9, _, _, _, _, _⟩) (v := ?vg2_4) rfl (by kernel_rfl) (by kernel_rfl) (by kernel_rfl) (fun _ _ _ h => h) (Or.inl ⟨by rfl, ?yg2_4⟩) hHeld ?rg2_4
  case yg2_4 =>
    intro wq hSw
    (try dsimp only at hSw)
    have q0 := hSw.cell_some K2.out (by show ¬ g2 = g1; omega)
    first | (go_simp; done) | (go_simp; with_reducible rfl)
  try simp only [Act.put, List.setIfInBounds_toArray, List.set_cons_zero, List.set_cons_succ]
  refine wpAnyH_take (i := 3) (oi := ⟨some 10, _, _, _, _, _⟩) (v := ?vg3_5) rfl (by kernel_rfl) (by kernel_rfl) (by kernel_rfl) (fun _ _ _ h => h) (Or.inl ⟨by rfl, ?yg3_5⟩) hHeld ?rg3_5
  case yg3_5 =>
    intro wq hSw
    (try dsimp only at hSw)
    first | (go_simp; done) | (go_simp; with_reducible rfl)
  try simp only [Act.put, List.setIfInBounds_toArray, List.set_cons_zero, List.set_cons_succ]
  refine wpAnyH_take (i := 4) (oi := ⟨some 11, _, _, _, _, _⟩) (v := ?vg4_6) rfl (by kernel_rfl) (by kernel_rfl) (by kernel_rfl) (fun _ _ _ h => h) (Or.inl ⟨by rfl, ?yg4_6⟩) hHeld ?rg4_6
  case yg4_6 =>
    intro wq hSw
    (try dsimp only at hSw)
    have q0 := hSw.cell_some K0.out (by show ¬ g0 = g1; omega)
    first | (go_simp; done) | (go_simp; with_reducible rfl)
  try simp only [Act.put, List.setIfInBounds_toArray, List.set_cons_zero, List.set_cons_succ]
  refine wpAnyH_take (i := 6) (oi := ⟨some 13, _, _, _, _, _⟩) (v := ?vg6_7) rfl (by kernel_rfl) (by kernel_rfl) (by kernel_rfl) (fun _ _ _ h => h) (Or.inl ⟨by rfl, ?yg6_7⟩) hHeld ?rg6_7
  case yg6_7 =>
    intro wq hSw
    (try dsimp only at hSw)
    first | (go_simp; done) | (go_simp; with_reducible rfl)
  try simp only [Act.put, List.setIfInBounds_toArray, List.set_cons_zero, List.set_cons_succ]
  refine wpAnyH_take (i := 7) (oi := ⟨some 14, _, _, _, _, _⟩) (v := ?vg7_8) rfl (by kernel_rfl) (by kernel_rfl) (by kernel_rfl) (fun _ _ _ h => h) (Or.inl ⟨by rfl, ?yg7_8⟩) hHeld ?rg7_8
  case yg7_8 =>
    intro wq hSw
    (try dsimp only at hSw)
    first | (go_simp; done) | (go_simp; with_reducible rfl)
  try simp only [Act.put, List.setIfInBounds_toArray, List.set_cons_zero, List.set_cons_succ]
  refine wpAnyH_take (i := 8) (oi := ⟨some 15, _, _, _, _, _⟩) (v := ?vg8_9) rfl (by kernel_rfl) (by kernel_rfl) (by kernel_rfl) (fun _ _ _ h => h) (Or.inl ⟨by rfl, ?yg8_9⟩) hHeld ?rg8_9
  case yg8_9 =>
    intro wq hSw
    (try dsimp only at hSw)
    have q0 := hSw.cell_some K3.out (by show ¬ g2 = g1; omega)
    first | (go_simp; done) | (go_simp; with_reducible rfl)
  try simp only [Act.put, List.setIfInBounds_toArray, List.set_cons_zero, List.set_cons_succ]
  refine wpAnyH_take (i := 9) (oi := ⟨some 16, _, _, _, _, _⟩) (v := ?vg9_10) rfl (by kernel_rfl) (by kernel_rfl) (by kernel_rfl) (fun _ _ _ h => h) (Or.inl ⟨by rfl, ?yg9_10⟩) hHeld ?rg9_10
  case yg9_10 =>
    intro wq hSw
    (try dsimp only at hSw)
    first | (go_simp; done) | (go_simp; with_reducible rfl)
  try simp only [Act.put, List.setIfInBounds_toArray, List.set_cons_zero, List.set_cons_succ]
  refine wpAnyH_take (i := 10) (oi := ⟨some 17, _, _, _, _, _⟩) (v := ?vg10_11) rfl (by kernel_rfl) (by kernel_rfl) (by kernel_rfl) (fun _ _ _ h => h) (Or.inl ⟨by rfl, ?yg10_11⟩) hHeld ?rg10_11
  case yg10_11 =>
    intro wq hSw
    (try dsimp only at hSw)
    have q0 := hSw.cell_some K1.out (by show ¬ g0 = g1; omega)
    first | (go_simp; done) | (go_simp; with_reducible rfl)
  try simp only [Act.put, List.setIfInBounds_toArray, List.set_cons_zero, List.set_cons_succ]
  refine wpAnyH_ready (rs := [5]) (by kernel_rfl) (by simp) ?_
  refine AllReadyH.cons (o := ⟨some 12, _, _, _, _, _⟩) rfl (fun K hK => ?_) (AllReadyH.nil)
  go_simp
  have hh := rfold_any c X x xp h A n cp f v_1 (Hh.out.below HWd.out (Nat.le_refl _)) (Hf.out.below HWd.out (Nat.le_refl _)) (by omega)
  refine hh.mono ?_; clear hh; rintro e v_12 ⟨B0, m0, d0, rfl, hs, hbN⟩
  have hfN : Fr (fun k => k = g1) v_1 v_12 := Fr.of_below hbN
  have hb1_13 := Lib.hid ((hbN.block _ (block_lt HBd.out)).trans HBd.out)
  have bel_14 := Lib.hid (HWd.out.trans (hbN.mono HWd.out.size))
  have S0 := Lib.hid hs
  clear hs hbN
  go_wp2_with fail
  have hHeld := hHeld.trans hfN
  have hz_15 := hfN.size
  refine hK.out _ _ hHeld (fun _ => ?_)
  clear hK K hfN
  try simp only [Act.put, List.setIfInBounds_toArray, List.set_cons_zero, List.set_cons_succ]
  refine wpAnyH_ready (rs := [11]) (by kernel_rfl) (by simp) ?_
  refine AllReadyH.cons (o := ⟨some 18, _, _, _, _, _⟩) rfl (fun K hK => ?_) (AllReadyH.nil)
  go_simp
  have hh := rfold_any c X2 x2 xp2 s A2 n2 cp2 r v_12 (Hs.out.below bel_14.out (Nat.le_refl _)) (Hr.out.below bel_14.out (Nat.le_refl _)) (by omega)
  refine hh.mono ?_; clear hh; rintro e v_16 ⟨B1, m1, d1, rfl, hs, hbN⟩
  have hfN : Fr (fun k => k = g1) v_12 v_16 := Fr.of_below hbN
  have hb1_17 := Lib.hid ((hbN.block _ (block_lt hb1_13.out)).trans hb1_13.out)
  have bel_18 := Lib.hid (bel_14.out.trans (hbN.mono bel_14.out.size))
  have S0' := Lib.hid (S0.out.below hbN (Nat.le_refl _))
  clear S0
  have S1 := Lib.hid hs
  clear hs hbN
  go_wp2_with fail
  have hHeld := hHeld.trans hfN
  have hz_19 := hfN.size
  refine hK.out _ _ hHeld (fun _ => ?_)
  clear hK K hfN
  try simp only [Act.put, List.setIfInBounds_toArray, List.set_cons_zero, List.set_cons_succ]
  refine wpAnyH_take (i := 12) (oi := ⟨some 19, _, _, _, _, _⟩) (v := ?vg12_20) rfl (by kernel_rfl) (by kernel_rfl) (by kernel_rfl) (fun _ _ _ h => h) (Or.inl ⟨by rfl, ?yg12_20⟩) hHeld ?rg12_20
  case yg12_20 =>
    intro wq hSw
    (try dsimp only at hSw)
    first | (go_simp; done) | (go_simp; with_reducible rfl)
  try simp only [Act.put, List.setIfInBounds_toArray, List.set_cons_zero, List.set_cons_succ]
  refine wpAnyH_ready (rs := [13]) (by kernel_rfl) (by simp) ?_
  refine AllReadyH.cons (o := ⟨none, _, _, _, _, _⟩) rfl (fun K hK => ?_) (AllReadyH.nil)
  have z0 : v_16.cell? ⟨g1, 0, none⟩ = some (.slice none 0 0) := by rw [cell_of_row _ _ _ _ _ _ hb1_17.out]; rfl
  have y0 : v_16.frozen? ⟨g1, 0, none⟩ = false := frozen_of_row _ _ _ _ _ hb1_17.out
  have z1 : v_16.cell? ⟨g1, 1, none⟩ = some (.slice none 0 0) := by rw [cell_of_row _ _ _ _ _ _ hb1_17.out]; rfl
  have y1 : v_16.frozen? ⟨g1, 1, none⟩ = false := frozen_of_row _ _ _ _ _ hb1_17.out
  go_simp
  have e0 := heap_setCell_same v_16 g1 0 _ _ (.slice B0 m0 d0) hb1_17.out
  have e1 := heap_setCell_same _ g1 1 _ _ (.slice B1 m1 d1) e0
  have hfN : Fr (fun k => k = g1) v_16 ((v_16.setCell ⟨g1, 0, none⟩ (.slice B0 m0 d0)).setCell ⟨g1, 1, none⟩ (.slice B1 m1 d1)) := (Fr.setCell (S := fun k => k = g1) (Fr.refl _ _) (.inr rfl) _).setCell (.inr rfl) _
  obtain ⟨v_21, hw⟩ : ∃ x, x = (v_16.setCell ⟨g1, 0, none⟩ (.slice B0 m0 d0)).setCell ⟨g1, 1, none⟩ (.slice B1 m1 d1) := ⟨_, rfl⟩
  rw [← hw] at hfN e1 ⊢
  clear hw z0 z1 y0 y1 e0
  have HE := Lib.hid e1; clear e1
  have T0 := Lib.hid (S0'.out.fr hfN (fun b o hn hA hk => sl_ne_eq S0'.out hb1_17.out hn hA hk))
  have T1 := Lib.hid (S1.out.fr hfN (fun b o hn hA hk => sl_ne_eq S1.out hb1_17.out hn hA hk))
  have HBel := Lib.hid (bel_18.out.trans (hfN.below (B := w.heap.size) (by have := bel_18.out.size; omega) (fun k hk => by have hk : k = g1 := hk; omega)))
  have hHeld := hHeld.trans hfN
  have hz_22 := hfN.size
  refine hK.out _ _ hHeld (fun _ => ?_)
  clear hK K hfN
  try simp only [Act.put, List.setIfInBounds_toArray, List.set_cons_zero, List.set_cons_succ]
  refine wpAnyH_done (by kernel_rfl) ?_ _
  go_wp2_with fail
  refine bodyPost_ret (results_cell_row Tryz.results56 _ _ g1 83 _ (0, 0) _ rfl HE.out Tryz.underlying83 rfl size_eq) rfl ?_
  exact ⟨⟨_, rfl, B0, m0, d0, B1, m1, d1, rfl, T0.out, T1.out⟩, HBel.out⟩
end Go.Proofs.YtgoomiimlfdcmaaGreat
