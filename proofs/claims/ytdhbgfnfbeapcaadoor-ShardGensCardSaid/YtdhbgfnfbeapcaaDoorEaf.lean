/-
  Package shard's functions that put a number and a body behind what stands in a sector. Condition: the sector is shorter than 1000 bytes. (Written by gen_eaf.py.)
-/
import Derived.Test.YtdhbgfnfbeapcaaDoorEae
import Derived.Deep.RegionHeld
namespace Go.Proofs.YtdhbgfnfbeapcaaDoor
open Go.RowKit Go.Proofs
set_option linter.unusedVariables false

/-- What a call that puts something into the variable answers. -/
def RetPz (b1 b2 : Nat) (f : Bool) (l : List UInt8) (w : World) (e : Ending) (w' : World) : Prop := e = .returned (.tuple #[]) ∧ Pz w' b1 b2 f l ∧ Fr (fun b => b = b1) w w'
set_option maxRecDepth 20000
set_option maxHeartbeats 800000
theorem number_any (b1 b2 m x : Nat) (f : Bool) (l : List UInt8) (w : World) (h : Pz w b1 b2 f l) (hl : l.length ≤ 1000) (hm1 : 1 ≤ m) (hm8 : m ≤ 8) (hx : x < 2 ^ 64) :
    Calls Tryd.prog 25 #[.int .i64 (m : Int), .int .u64 (x : Int), .pointer (some ⟨b2, 0, none⟩)] w (RetPz b1 b2 true (l ++ le m x) w) := by
  obtain ⟨AZ, cz, hv, hs, hmn, hfl⟩ := h.v
  have HP := Lib.hid (show w.drew.cell? ⟨b2, 0, none⟩ = _ from h.pc)
  have NE := Lib.hid (show ¬ (fun b => b = b1) b2 from h.ne)
  have c1 : w.cell? ⟨b1, 0, none⟩ = some (.slice AZ l.length cz) := by rw [cell_of_row _ _ _ _ _ _ hv]; rfl
  have f1 : w.frozen? ⟨b1, 0, none⟩ = false := frozen_of_row _ _ _ _ _ hv
  have HS := Lib.hid (show Sl w.drew 1 AZ l.length cz (cells l) from hs.drew)
  have LT := Lib.hid (block_lt hv)
  have HZ := Lib.hid h
  clear h hv hs hmn hfl
  go_enter Tryd.func25, Tryd.ntmps25
  go_wp2_with fail
  refine wp_region_held_drew (S := fun w' => Fr (fun b => b = b1) w.drew w') (by kernel_rfl) (Fr.refl _ _) (fun hHeld => ?_)
  clear hHeld
  refine wpAnyH_take (i := 0) (oi := ⟨some 5, _, _, _, _, _⟩) (v := ?vn0) rfl (by kernel_rfl) (by kernel_rfl) (by kernel_rfl) (fun _ _ _ h => h) (Or.inl ⟨by rfl, ?yn0⟩) (Fr.refl _ _) ?rn0
  case yn0 =>
    intro wq hSw
    (try dsimp only at hSw)
    have hq := hSw.cell_some HP.out NE.out
    first | (go_simp; done) | (go_simp; with_reducible rfl)
  try simp only [Act.put, List.setIfInBounds_toArray, List.set_cons_zero, List.set_cons_succ]
  refine wpAnyH_take (i := 1) (oi := ⟨some 6, _, _, _, _, _⟩) (v := ?vn1) rfl (by kernel_rfl) (by kernel_rfl) (by kernel_rfl) (fun _ _ _ h => h) (Or.inl ⟨by rfl, ?yn1⟩) (Fr.refl _ _) ?rn1
  case yn1 =>
    intro wq hSw
    (try dsimp only at hSw)
    have hq := hSw.cell_some HP.out NE.out
    first | (go_simp; done) | (go_simp; with_reducible rfl)
  try simp only [Act.put, List.setIfInBounds_toArray, List.set_cons_zero, List.set_cons_succ]
  refine wpAnyH_take (i := 2) (oi := ⟨some 7, _, _, _, _, _⟩) (v := ?vn2) rfl (by kernel_rfl) (by kernel_rfl) (by kernel_rfl) (fun _ _ _ h => h) (Or.inl ⟨by rfl, ?yn2⟩) (Fr.refl _ _) ?rn2
  case yn2 =>
    intro wq hSw
    (try dsimp only at hSw)
    first | (go_simp; done) | (go_simp; with_reducible rfl)
  try simp only [Act.put, List.setIfInBounds_toArray, List.set_cons_zero, List.set_cons_succ]
  refine wpAnyH_take (i := 4) (oi := ⟨some 9, _, _, _, _, _⟩) (v := ?vn4) rfl (by kernel_rfl) (by kernel_rfl) (by kernel_rfl) (fun _ _ _ h => h) (Or.inl ⟨by rfl, ?yn4⟩) (Fr.refl _ _) ?rn4
  case yn4 =>
    intro wq hSw
    (try dsimp only at hSw)
    first | (go_simp; done) | (go_simp; with_reducible rfl)
  try simp only [Act.put, List.setIfInBounds_toArray, List.set_cons_zero, List.set_cons_succ]
  refine wpAnyH_take (i := 5) (oi := ⟨some 10, _, _, _, _, _⟩) (v := ?vn5) rfl (by kernel_rfl) (by kernel_rfl) (by kernel_rfl) (fun _ _ _ h => h) (Or.inl ⟨by rfl, ?yn5⟩) (Fr.refl _ _) ?rn5
  case yn5 =>
    intro wq hSw
    (try dsimp only at hSw)
    first | (go_simp; done) | (go_simp; with_reducible rfl)
  try simp only [Act.put, List.setIfInBounds_toArray, List.set_cons_zero, List.set_cons_succ]
  refine wpAnyH_ready (rs := [3]) (by kernel_rfl) (by simp) ?_
  refine AllReadyH.cons (o := ⟨some 8, _, _, _, _, _⟩) rfl (fun K hK => ?_) AllReadyH.nil
  go_simp
  refine hK.out _ _ (Fr.refl _ _) (fun hHeld => ?_)
  clear hK K hHeld
  try simp only [Act.put, List.setIfInBounds_toArray, List.set_cons_zero, List.set_cons_succ]
  refine wpAnyH_ready (rs := [6]) (by kernel_rfl) (by simp) ?_
  refine AllReadyH.cons (o := ⟨some 11, _, _, _, _, _⟩) rfl (fun K hK => ?_) AllReadyH.nil
  go_simp
  refine (put_mine AZ l.length cz l m x _ HS.out (by omega) hm1 hm8 hx).mono ?_; rintro e w1 ⟨A1, rfl, hs1, hmn1, hb1⟩
  have hfr := Fr.of_below (S := fun b => b = b1) hb1
  have q1 := (hb1.cell (p := ⟨b1, 0, none⟩) LT.out).trans (show w.drew.cell? ⟨b1, 0, none⟩ = _ from c1)
  have u1 := (hb1.frozen (p := ⟨b1, 0, none⟩) LT.out).trans (show w.drew.frozen? ⟨b1, 0, none⟩ = _ from f1)
  have HST := Lib.hid ((show Pz w.drew b1 b2 f l from HZ.out.later (Below.drew (Below.refl _ _))).set hb1 hs1 (k := l ++ le m x) (by rw [List.length_append, le_length]) (hmn1.lower (by show b1 + 1 ≤ w.heap.size; exact LT.out)) (g := true) (fun _ => rfl))
  clear hs1 hmn1 hb1 c1 f1
  go_wp2_with fail
  refine hK.out _ _ hfr (fun hHeld => ?_)
  clear hK K hHeld
  try simp only [Act.put, List.setIfInBounds_toArray, List.set_cons_zero, List.set_cons_succ]
  refine wpAnyH_re (S' := fun w' => Fr (fun b => b = b1) w1 w') (fun w' h => hfr.trans h) ?_
  clear hfr
  refine wpAnyH_take (i := 7) (oi := ⟨some 12, _, _, _, _, _⟩) (v := ?vn7) rfl (by kernel_rfl) (by kernel_rfl) (by kernel_rfl) (fun _ _ _ h => h) (Or.inl ⟨by rfl, ?yn7⟩) (Fr.refl _ _) ?rn7
  case yn7 =>
    intro wq hSw
    (try dsimp only at hSw)
    first | (go_simp; done) | (go_simp; with_reducible rfl)
  try simp only [Act.put, List.setIfInBounds_toArray, List.set_cons_zero, List.set_cons_succ]
  refine wpAnyH_ready (rs := [8]) (by kernel_rfl) (by simp) ?_
  refine AllReadyH.cons (o := ⟨none, _, _, _, _, _⟩) rfl (fun K hK => ?_) AllReadyH.nil
  go_simp
  have hst := HST.out
  obtain ⟨w2, hw⟩ : ∃ v, v = w1.setCell ⟨b1, 0, none⟩ (.slice A1 (l.length + m) (l.length + m)) := ⟨_, rfl⟩
  rw [← hw] at hst ⊢
  have HST2 := Lib.hid hst
  have hfr : Fr (fun b => b = b1) w1 w2 := by rw [hw]; exact (Fr.refl (fun b => b = b1) _).setCell (p := ⟨b1, 0, none⟩) (.inr rfl) _
  clear hw hst q1 u1
  refine hK.out _ _ hfr (fun hHeld => ?_)
  clear hK K hHeld
  try simp only [Act.put]
  refine wpAnyH_re (S' := fun w' => Fr (fun b => b = b1) w2 w') (fun w' h => hfr.trans h) ?_
  clear hfr
  refine wpAnyH_done (by kernel_rfl) ?_ _
  go_wp2_with fail
  go_end0
  exact ⟨rfl, HST2.out.1, (Fr.drew (Fr.refl _ w)).trans HST2.out.2⟩
theorem body_any (b1 b2 : Nat) (b : List UInt8) (l : List UInt8) (w : World) (h : Pz w b1 b2 true l) (hl : l.length ≤ 1000) :
    Calls Tryd.prog 27 #[.agg (cells (pad44 b)).toArray, .pointer (some ⟨b2, 0, none⟩)] w (RetPz b1 b2 false (l ++ pad44 b) w) := by
  obtain ⟨w0, hw0⟩ : ∃ w0, w0 = w.alloc (.cells (cells (pad44 b)).toArray 24) := ⟨_, rfl⟩
  have hb0 : Below w.heap.size w w0 := by rw [hw0]; exact (Below.refl _ _).alloc (Nat.le_refl _) _
  have h0 := h.later hb0
  obtain ⟨AZ, cz, hv, hs, hmn, hfl⟩ := h0.v
  obtain rfl := hfl rfl
  have HP := Lib.hid (show w0.drew.cell? ⟨b2, 0, none⟩ = _ from h0.pc)
  have NE := Lib.hid (show ¬ (fun b => b = b1) b2 from h.ne)
  have c1 : w0.cell? ⟨b1, 0, none⟩ = some (.slice AZ l.length l.length) := by rw [cell_of_row _ _ _ _ _ _ hv]; rfl
  have f1 : w0.frozen? ⟨b1, 0, none⟩ = false := frozen_of_row _ _ _ _ _ hv
  have HO := Lib.hid (show Own w0.drew w0.drew.heap.size 5 1 AZ l.length l.length (cells l) from Own.full hs.drew)
  have LT := Lib.hid (block_lt hv)
  have HZ0 := Lib.hid h0
  have hsrc0 : Sl w0 1 (some ⟨w.heap.size, 0, none⟩) 44 44 (cells (pad44 b)) := by
    rw [hw0]
    have := Sl.made w (cells (pad44 b)).toArray 24 1 44 (by rw [List.size_toArray, cells_length, pad44_len]) (by decide)
    simpa using this
  have HSRC := Lib.hid (hsrc0.drew.src Tryd.underlying27 (by decide) (cells_one (pad44 b)))
  obtain ⟨i0, hi, hz0, hz1, hz2⟩ := info_parts info_u8
  have Hi := Lib.hid hi; have Hz0 := Lib.hid hz0; have Hz1 := Lib.hid hz1; have Hz2 := Lib.hid hz2
  have HB0 := Lib.hid hb0
  have Hw0 := Lib.hid hw0
  clear h h0 hv hs hmn hsrc0 hi hz0 hz1 hz2 hb0 hw0 hfl
  go_enter Tryd.func27, Tryd.ntmps27
  go_wp2_with fail
  rw [← Hw0.out]
  refine wp_region_held_drew (S := fun w' => Fr (fun b => b = b1) w0.drew w') (by kernel_rfl) (Fr.refl _ _) (fun hHeld => ?_)
  clear hHeld
  refine wpAnyH_take (i := 0) (oi := ⟨some 3, _, _, _, _, _⟩) (v := ?vb0) rfl (by kernel_rfl) (by kernel_rfl) (by kernel_rfl) (fun _ _ _ h => h) (Or.inl ⟨by rfl, ?yb0⟩) (Fr.refl _ _) ?rb0
  case yb0 =>
    intro wq hSw
    (try dsimp only at hSw)
    have hq := hSw.cell_some HP.out NE.out
    first | (go_simp; done) | (go_simp; with_reducible rfl)
  try simp only [Act.put, List.setIfInBounds_toArray, List.set_cons_zero, List.set_cons_succ]
  refine wpAnyH_take (i := 1) (oi := ⟨some 4, _, _, _, _, _⟩) (v := ?vb1) rfl (by kernel_rfl) (by kernel_rfl) (by kernel_rfl) (fun _ _ _ h => h) (Or.inl ⟨by rfl, ?yb1⟩) (Fr.refl _ _) ?rb1
  case yb1 =>
    intro wq hSw
    (try dsimp only at hSw)
    have hq := hSw.cell_some HP.out NE.out
    first | (go_simp; done) | (go_simp; with_reducible rfl)
  try simp only [Act.put, List.setIfInBounds_toArray, List.set_cons_zero, List.set_cons_succ]
  refine wpAnyH_take (i := 2) (oi := ⟨some 5, _, _, _, _, _⟩) (v := ?vb2) rfl (by kernel_rfl) (by kernel_rfl) (by kernel_rfl) (fun _ _ _ h => h) (Or.inl ⟨by rfl, ?yb2⟩) (Fr.refl _ _) ?rb2
  case yb2 =>
    intro wq hSw
    (try dsimp only at hSw)
    first | (go_simp; done) | (go_simp; with_reducible rfl)
  try simp only [Act.put, List.setIfInBounds_toArray, List.set_cons_zero, List.set_cons_succ]
  refine wpAnyH_take (i := 4) (oi := ⟨some 7, _, _, _, _, _⟩) (v := ?vb4) rfl (by kernel_rfl) (by kernel_rfl) (by kernel_rfl) (fun _ _ _ h => h) (Or.inl ⟨by rfl, ?yb4⟩) (Fr.refl _ _) ?rb4
  case yb4 =>
    intro wq hSw
    (try dsimp only at hSw)
    first | (go_simp; done) | (go_simp; with_reducible rfl)
  try simp only [Act.put, List.setIfInBounds_toArray, List.set_cons_zero, List.set_cons_succ]
  refine wpAnyH_ready (rs := [3]) (by kernel_rfl) (by simp) ?_
  refine AllReadyH.cons (o := ⟨some 6, _, _, _, _, _⟩) rfl (fun K hK => ?_) AllReadyH.nil
  go_simp
  refine hK.out _ _ (Fr.refl _ _) (fun hHeld => ?_)
  clear hK K hHeld
  try simp only [Act.put, List.setIfInBounds_toArray, List.set_cons_zero, List.set_cons_succ]
  refine wpAnyH_ready (rs := [5]) (by kernel_rfl) (by simp) ?_
  refine AllReadyH.cons (o := ⟨some 8, _, _, _, _, _⟩) rfl (fun K hK => ?_) AllReadyH.nil
  refine wp_append_mine (o := ⟨some 8, _, _, _, _, _⟩) (.tmp 6) (.tmp 7) 27 27 rfl i0 (.int .u8 0) 1 Tryd.underlying27 Hi.out Hz0.out Hz1.out Hz2.out rfl (by decide) rfl HO.out (Nat.le_refl _) 44 (cells (pad44 b)) _ rfl HSRC.out (by unfold maxLen; omega) (by omega) ?_
  intro A1 c1' w1 ho1 hb1 hm1
  have hfr := Fr.of_below (S := fun b => b = b1) hb1
  have q1 := (hb1.cell (p := ⟨b1, 0, none⟩) LT.out).trans (show w0.drew.cell? ⟨b1, 0, none⟩ = _ from c1)
  have u1 := (hb1.frozen (p := ⟨b1, 0, none⟩) LT.out).trans (show w0.drew.frozen? ⟨b1, 0, none⟩ = _ from f1)
  have hso := ho1.sl
  rw [← cells_append] at hso hm1
  have hmn1 : Mine w1 w0.drew.heap.size 5 A1 (l.length + 44) (cells (l ++ pad44 b)) := Mine.of_own (hm1 (by omega))
  have HST := Lib.hid ((show Pz w0.drew b1 b2 true l from HZ0.out.later (Below.drew (Below.refl _ _))).set hb1 hso (k := l ++ pad44 b) (by rw [List.length_append, pad44_len]) (hmn1.lower (by show b1 + 1 ≤ w0.heap.size; exact LT.out)) (g := false) (fun h => by cases h))
  clear hso hmn1 ho1 hm1 hb1 c1 f1
  refine hK.out _ _ hfr (fun hHeld => ?_)
  clear hK K hHeld
  try simp only [Act.put, List.setIfInBounds_toArray, List.set_cons_zero, List.set_cons_succ]
  refine wpAnyH_re (S' := fun w' => Fr (fun b => b = b1) w1 w') (fun w' h => hfr.trans h) ?_
  clear hfr
  refine wpAnyH_take (i := 6) (oi := ⟨some 9, _, _, _, _, _⟩) (v := ?vb6) rfl (by kernel_rfl) (by kernel_rfl) (by kernel_rfl) (fun _ _ _ h => h) (Or.inl ⟨by rfl, ?yb6⟩) (Fr.refl _ _) ?rb6
  case yb6 =>
    intro wq hSw
    (try dsimp only at hSw)
    first | (go_simp; done) | (go_simp; with_reducible rfl)
  try simp only [Act.put, List.setIfInBounds_toArray, List.set_cons_zero, List.set_cons_succ]
  refine wpAnyH_ready (rs := [7]) (by kernel_rfl) (by simp) ?_
  refine AllReadyH.cons (o := ⟨none, _, _, _, _, _⟩) rfl (fun K hK => ?_) AllReadyH.nil
  go_simp
  have hst := HST.out
  obtain ⟨w2, hw⟩ : ∃ v, v = w1.setCell ⟨b1, 0, none⟩ (.slice A1 (l.length + 44) c1') := ⟨_, rfl⟩
  rw [← hw] at hst ⊢
  have HST2 := Lib.hid hst
  have hfr : Fr (fun b => b = b1) w1 w2 := by rw [hw]; exact (Fr.refl (fun b => b = b1) _).setCell (p := ⟨b1, 0, none⟩) (.inr rfl) _
  clear hw hst q1 u1
  refine hK.out _ _ hfr (fun hHeld => ?_)
  clear hK K hHeld
  try simp only [Act.put]
  refine wpAnyH_re (S' := fun w' => Fr (fun b => b = b1) w2 w') (fun w' h => hfr.trans h) ?_
  clear hfr
  refine wpAnyH_done (by kernel_rfl) ?_ _
  go_wp2_with fail
  go_end0
  exact ⟨rfl, HST2.out.1, (Fr.of_below HB0.out).trans ((Fr.drew (Fr.refl _ w0)).trans HST2.out.2)⟩
end Go.Proofs.YtdhbgfnfbeapcaaDoor
