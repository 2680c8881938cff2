/-
  Layer 9's example ('stores'), over DrvK: it returns true. (Written by gen_drc.py.)
-/
import Derived.Test.YtmlmlmlbdjhfhaaDrb
import Derived.Deep.RegionHeld3
namespace Go.Proofs.Ytmlmlmlbdjhfhaa
open Go.RowKit Go.Proofs
set_option linter.unusedVariables false
set_option linter.unusedSimpArgs false

/-- Bytes that a law's drive leaves alone. -/
structure Kb (w0 w : World) (X : Nat → Prop) (A : Option Addr) (n c : Nat) (l : List UInt8) : Prop where
  sl : Sl w 1 A n c (cells l)
  off : ∀ b o, 0 < n → A = some ⟨b, o, none⟩ → ¬ Own9 w0 X b
section
variable {Rep : World → (Nat → Prop) → Nat → Dv → Prop} {w0 w w' : World} {X Y : Nat → Prop} {D : Nat} {x y : Dv} {A : Option Addr} {n c : Nat} {l : List UInt8}
theorem Kb.fr (h : Kb w0 w X A n c l) (hf : Fr (Own9 w0 X) w w') : Kb w0 w' X A n c l := ⟨h.sl.fr hf h.off, h.off⟩
theorem Kb.later (h : Kb w0 w X A n c l) (hb : Below w.heap.size w w') : Kb w0 w' X A n c l := ⟨h.sl.below hb (Nat.le_refl _), h.off⟩
theorem Kb.mono (h : Kb w0 w X A n c l) (hX : ∀ b, X b → Y b) : Kb w0 w Y A n c l := ⟨h.sl, fun b o hn hA hO => h.off b o hn hA ⟨hO.1, fun hx => hO.2 (hX b hx)⟩⟩
/-- What a call made in new memory is none of the drive's blocks. -/
theorem Lv.keeps (K : DrvK Rep) (h : Lv Rep w0 w X D x) (hn : NewB w A n c l w') : ∃ Y, Lv Rep w0 w' Y D x ∧ (∀ b, X b → Y b) ∧ Kb w0 w' Y A n c l := by
  obtain ⟨hs, hb, hnew⟩ := hn
  obtain ⟨S, hr, hS⟩ := h.ex
  refine ⟨fun b => X b ∨ w.heap.size ≤ b ∧ b < w'.heap.size, ⟨⟨S, K.fr hr (Fr.of_below hb : Fr (fun _ => False) _ _) (fun _ _ h => h), fun b hb' => ⟨(hS b hb').1, ?_⟩⟩, h.bel.trans (hb.mono h.bel.size), ?_⟩, fun b h => Or.inl h, ⟨hs, ?_⟩⟩
  · rintro (hx | ⟨hx, _⟩)
    · exact (hS b hb').2 hx
    · have := K.old hr b hb'
      omega
  · rintro b (hx | ⟨_, hx⟩)
    · exact Nat.lt_of_lt_of_le (h.xlt b hx) hb.size
    · exact hx
  · intro b o hp hA hO
    exact hO.2 (Or.inr ⟨hnew b o hp hA, hs.lt (by omega) hp hA⟩)
end
theorem full_at (z : Int) (c : UInt8) (hz : z = (c.toNat : Int)) (w : World) : Calls Try.prog 10 #[.int .u8 z] w (RetMine w.heap.size w (full c)) := by
  subst hz
  exact full_any c w

set_option maxRecDepth 20000 in
set_option maxHeartbeats 3200000 in
theorem stores9_any {Rep : World → (Nat → Prop) → Nat → Dv → Prop} (DK : DrvK Rep) (w : World) : Calls Try.prog 7 #[] w (SaysTrue w) := by
  go_enter Try.func7, Try.ntmps7
  go_wp2_with fail
  refine (Lv.new DK (Below.refl _ _) (X := fun _ => False) (fun _ h => h.elim) 2 (by omega) (by omega)).mono ?_; rintro e w1 ⟨D, rfl, hL, -⟩
  have L1 := Lib.hid hL
  clear hL
  go_wp2_with fail
  refine (full_at 7 7 rfl _).mono ?_; rintro e w2 ⟨A2, n2, c2, rfl, hs, hb, -⟩
  have L2 := Lib.hid (L1.out.later DK hb)
  have S2 := Lib.hid hs
  clear hs hb L1
  go_wp2_with fail
  refine (L2.out.write DK 1 A2 n2 c2 (full 7) (by omega) (by omega) (by decide) S2.out).mono ?_; rintro e w3 ⟨he, hL, _⟩
  rw [show (Dv.new 2).writeX 1 (full 7) = 0 from by decide] at he
  subst he
  have L3 := Lib.hid hL
  clear hL L2 S2
  go_wp2_with fail
  refine (L3.out.crash DK none 0 0 [] (by decide) (Sl.nil _ _ _ (by decide))).mono ?_; rintro e w4 ⟨rfl, hL, _⟩
  have L4 := Lib.hid hL
  clear hL L3
  go_wp2_with fail
  refine (L4.out.read DK 1 (by omega) (by omega) (by decide)).mono ?_; rintro e w5 ⟨A5, n5, c5, he, hN⟩
  rw [show (((Dv.new 2).write 1 (full 7)).crash []).readX 1 = 0 from by decide] at he
  rw [show (((Dv.new 2).write 1 (full 7)).crash []).readL 1 = full 0 from by decide] at hN
  subst he
  obtain ⟨X5, hL, _, hk⟩ := L4.out.keeps DK hN
  have hX5 : ∀ b, X5 b → b < w5.heap.size := hL.xlt
  have L5 := Lib.hid hL
  have K5 := Lib.hid hk
  clear hL hk hN L4 hX5
  obtain ⟨x5, hx5⟩ : ∃ x, x = ((Dv.new 2).write 1 (full 7)).crash [] := ⟨_, rfl⟩
  rw [← hx5] at L5
  go_wp2_with fail
  refine (full_at 9 9 rfl _).mono ?_; rintro e w6 ⟨A6, n6, c6, rfl, hs, hb, -⟩
  have L6 := Lib.hid (L5.out.later DK hb)
  have K6 := Lib.hid (K5.out.later hb)
  have S6 := Lib.hid hs
  clear hs hb L5 K5
  go_wp2_with fail
  refine (L6.out.write DK 1 A6 n6 c6 (full 9) (by omega) (by omega) (by subst hx5; decide) S6.out).mono ?_; rintro e w7 ⟨he, hL, hF⟩
  rw [show x5.writeX 1 (full 9) = 0 from by subst hx5; decide] at he
  subst he
  have L7 := Lib.hid hL
  have K7 := Lib.hid (K6.out.fr hF)
  clear hL hF L6 K6 S6
  obtain ⟨x7, hx7⟩ : ∃ x, x = x5.write 1 (full 9) := ⟨_, rfl⟩
  rw [← hx7] at L7
  go_wp2_with fail
  refine (L7.out.flush DK (by subst hx7 hx5; decide)).mono ?_; rintro e w8 ⟨he, hL, hF⟩
  rw [show x7.flushX = 0 from by subst hx7 hx5; decide] at he
  subst he
  have L8 := Lib.hid hL
  have K8 := Lib.hid (K7.out.fr hF)
  clear hL hF L7 K7
  go_wp2_with fail
  refine (L8.out.crash DK none 0 0 [] (by subst hx7 hx5; decide) (Sl.nil _ _ _ (by decide))).mono ?_; rintro e w9 ⟨rfl, hL, hF⟩
  have L9 := Lib.hid hL
  have K9 := Lib.hid (K8.out.fr hF)
  clear hL hF L8 K8
  obtain ⟨x9, hx9⟩ : ∃ x, x = x7.flush1.crash [] := ⟨_, rfl⟩
  rw [← hx9] at L9
  go_wp2_with fail
  refine (L9.out.read DK 1 (by omega) (by omega) (by subst hx9 hx7 hx5; decide)).mono ?_; rintro e w10 ⟨A10, n10, c10, he, hN⟩
  rw [show x9.readX 1 = 0 from by subst hx9 hx7 hx5; decide] at he
  rw [show x9.readL 1 = full 9 from by subst hx9 hx7 hx5; decide] at hN
  subst he
  have hn10 : (x9.n : Int) = 2 := by subst hx9 hx7 hx5; decide
  have SC := Lib.hid hN.1
  have SB := Lib.hid (K9.out.later hN.2.1).sl
  have LA := Lib.hid ((L9.out.later DK hN.2.1).later DK (Below.drew (Below.refl _ _)))
  clear hN L9 K9 hx9 hx7 hx5
  go_wp2_with fail
  refine wp_region_held_drew (S := fun w' => Fr (fun _ => False) w10.drew w') (by kernel_rfl) (Fr.refl _ _) (fun hHeld => ?_)
  clear hHeld
  refine wpAnyH_take (i := 0) (oi := ⟨some 32, _, _, _, _, _⟩) (v := ?vg0) rfl (by kernel_rfl) (by kernel_rfl) (by kernel_rfl) (fun _ _ _ h => h) (Or.inl ⟨by rfl, ?yg0⟩) (Fr.refl _ _) ?rg0
  case yg0 =>
    intro wq hSw
    (try dsimp only at hSw)
    first | (go_simp; done) | (go_simp; with_reducible rfl)
  try simp only [Act.put, List.setIfInBounds_toArray, List.set_cons_zero, List.set_cons_succ]
  refine wpAnyH_take (i := 1) (oi := ⟨some 33, _, _, _, _, _⟩) (v := ?vg1) rfl (by kernel_rfl) (by kernel_rfl) (by kernel_rfl) (fun _ _ _ h => h) (Or.inl ⟨by rfl, ?yg1⟩) (Fr.refl _ _) ?rg1
  case yg1 =>
    intro wq hSw
    (try dsimp only at hSw)
    first | (go_simp; done) | (go_simp; with_reducible rfl)
  try simp only [Act.put, List.setIfInBounds_toArray, List.set_cons_zero, List.set_cons_succ]
  refine wpAnyH_take (i := 2) (oi := ⟨some 34, _, _, _, _, _⟩) (v := ?vg2) rfl (by kernel_rfl) (by kernel_rfl) (by kernel_rfl) (fun _ _ _ h => h) (Or.inl ⟨by rfl, ?yg2⟩) (Fr.refl _ _) ?rg2
  case yg2 =>
    intro wq hSw
    (try dsimp only at hSw)
    first | (go_simp; done) | (go_simp; with_reducible rfl)
  try simp only [Act.put, List.setIfInBounds_toArray, List.set_cons_zero, List.set_cons_succ]
  refine wpAnyH_take (i := 3) (oi := ⟨some 35, _, _, _, _, _⟩) (v := ?vg3) rfl (by kernel_rfl) (by kernel_rfl) (by kernel_rfl) (fun _ _ _ h => h) (Or.inl ⟨by rfl, ?yg3⟩) (Fr.refl _ _) ?rg3
  case yg3 =>
    intro wq hSw
    (try dsimp only at hSw)
    first | (go_simp; done) | (go_simp; with_reducible rfl)
  try simp only [Act.put, List.setIfInBounds_toArray, List.set_cons_zero, List.set_cons_succ]
  refine wpAnyH_take (i := 4) (oi := ⟨some 36, _, _, _, _, _⟩) (v := ?vg4) rfl (by kernel_rfl) (by kernel_rfl) (by kernel_rfl) (fun _ _ _ h => h) (Or.inl ⟨by rfl, ?yg4⟩) (Fr.refl _ _) ?rg4
  case yg4 =>
    intro wq hSw
    (try dsimp only at hSw)
    first | (go_simp; done) | (go_simp; with_reducible rfl)
  try simp only [Act.put, List.setIfInBounds_toArray, List.set_cons_zero, List.set_cons_succ]
  refine wpAnyH_take (i := 5) (oi := ⟨some 37, _, _, _, _, _⟩) (v := ?vg5) rfl (by kernel_rfl) (by kernel_rfl) (by kernel_rfl) (fun _ _ _ h => h) (Or.inl ⟨by rfl, ?yg5⟩) (Fr.refl _ _) ?rg5
  case yg5 =>
    intro wq hSw
    (try dsimp only at hSw)
    first | (go_simp; done) | (go_simp; with_reducible rfl)
  try simp only [Act.put, List.setIfInBounds_toArray, List.set_cons_zero, List.set_cons_succ]
  refine wpAnyH_take (i := 6) (oi := ⟨some 38, _, _, _, _, _⟩) (v := ?vg6) rfl (by kernel_rfl) (by kernel_rfl) (by kernel_rfl) (fun _ _ _ h => h) (Or.inl ⟨by rfl, ?yg6⟩) (Fr.refl _ _) ?rg6
  case yg6 =>
    intro wq hSw
    (try dsimp only at hSw)
    first | (go_simp; done) | (go_simp; with_reducible rfl)
  try simp only [Act.put, List.setIfInBounds_toArray, List.set_cons_zero, List.set_cons_succ]
  refine wpAnyH_take (i := 7) (oi := ⟨some 39, _, _, _, _, _⟩) (v := ?vg7) rfl (by kernel_rfl) (by kernel_rfl) (by kernel_rfl) (fun _ _ _ h => h) (Or.inl ⟨by rfl, ?yg7⟩) (Fr.refl _ _) ?rg7
  case yg7 =>
    intro wq hSw
    (try dsimp only at hSw)
    first | (go_simp; done) | (go_simp; with_reducible rfl)
  try simp only [Act.put, List.setIfInBounds_toArray, List.set_cons_zero, List.set_cons_succ]
  refine wpAnyH_take (i := 8) (oi := ⟨some 40, _, _, _, _, _⟩) (v := ?vg8) rfl (by kernel_rfl) (by kernel_rfl) (by kernel_rfl) (fun _ _ _ h => h) (Or.inl ⟨by rfl, ?yg8⟩) (Fr.refl _ _) ?rg8
  case yg8 =>
    intro wq hSw
    (try dsimp only at hSw)
    have kk := str_of (SB.out.drew.fr hSw (fun _ _ _ _ h => h))
    first | (go_simp; done) | (go_simp; with_reducible rfl)
  try simp only [Act.put, List.setIfInBounds_toArray, List.set_cons_zero, List.set_cons_succ]
  refine wpAnyH_ready (rs := [9]) (by kernel_rfl) (by simp) ?_
  refine AllReadyH.cons (o := ⟨some 41, _, _, _, _, _⟩) rfl (fun K hK => ?_) AllReadyH.nil
  go_simp
  have hh := full_at 0 0 rfl
  refine (hh _).mono ?_; clear hh; rintro e w11 ⟨A11, n11, c11, rfl, hs11, hb11, -⟩
  have LB := Lib.hid (LA.out.later DK hb11)
  have S11 := Lib.hid hs11
  have SC1 := Lib.hid (SC.out.drew.below hb11 (Nat.le_refl _))
  have hfr := Fr.of_below (S := fun _ => False) hb11
  clear hs11 hb11
  go_wp2_with fail
  refine hK.out _ _ hfr (fun hHeld => ?_)
  clear hK K hHeld
  try simp only [Act.put, List.setIfInBounds_toArray, List.set_cons_zero, List.set_cons_succ]
  refine wpAnyH_re (S' := fun w' => Fr (fun _ => False) w11 w') (fun w' h => hfr.trans h) ?_
  clear hfr
  refine wpAnyH_take (i := 10) (oi := ⟨some 42, _, _, _, _, _⟩) (v := ?vg10) rfl (by kernel_rfl) (by kernel_rfl) (by kernel_rfl) (fun _ _ _ h => h) (Or.inl ⟨by rfl, ?yg10⟩) (Fr.refl _ _) ?rg10
  case yg10 =>
    intro wq hSw
    (try dsimp only at hSw)
    have kk := str_of (S11.out.fr hSw (fun _ _ _ _ h => h))
    first | (go_simp; done) | (go_simp; with_reducible rfl)
  try simp only [Act.put, List.setIfInBounds_toArray, List.set_cons_zero, List.set_cons_succ]
  refine wpAnyH_take (i := 11) (oi := ⟨some 43, _, _, _, _, _⟩) (v := ?vg11) rfl (by kernel_rfl) (by kernel_rfl) (by kernel_rfl) (fun _ _ _ h => h) (Or.inl ⟨by rfl, ?yg11⟩) (Fr.refl _ _) ?rg11
  case yg11 =>
    intro wq hSw
    (try dsimp only at hSw)
    first | (go_simp; done) | (go_simp; with_reducible rfl)
  try simp only [Act.put, List.setIfInBounds_toArray, List.set_cons_zero, List.set_cons_succ]
  refine wpAnyH_take (i := 12) (oi := ⟨some 44, _, _, _, _, _⟩) (v := ?vg12) rfl (by kernel_rfl) (by kernel_rfl) (by kernel_rfl) (fun _ _ _ h => h) (Or.inl ⟨by rfl, ?yg12⟩) (Fr.refl _ _) ?rg12
  case yg12 =>
    intro wq hSw
    (try dsimp only at hSw)
    first | (go_simp; done) | (go_simp; with_reducible rfl)
  try simp only [Act.put, List.setIfInBounds_toArray, List.set_cons_zero, List.set_cons_succ]
  refine wpAnyH_take (i := 13) (oi := ⟨some 45, _, _, _, _, _⟩) (v := ?vg13) rfl (by kernel_rfl) (by kernel_rfl) (by kernel_rfl) (fun _ _ _ h => h) (Or.inl ⟨by rfl, ?yg13⟩) (Fr.refl _ _) ?rg13
  case yg13 =>
    intro wq hSw
    (try dsimp only at hSw)
    first | (go_simp; done) | (go_simp; with_reducible rfl)
  try simp only [Act.put, List.setIfInBounds_toArray, List.set_cons_zero, List.set_cons_succ]
  refine wpAnyH_take (i := 14) (oi := ⟨some 46, _, _, _, _, _⟩) (v := ?vg14) rfl (by kernel_rfl) (by kernel_rfl) (by kernel_rfl) (fun _ _ _ h => h) (Or.inl ⟨by rfl, ?yg14⟩) (Fr.refl _ _) ?rg14
  case yg14 =>
    intro wq hSw
    (try dsimp only at hSw)
    first | (go_simp; done) | (go_simp; with_reducible rfl)
  try simp only [Act.put, List.setIfInBounds_toArray, List.set_cons_zero, List.set_cons_succ]
  refine wpAnyH_take (i := 15) (oi := ⟨some 47, _, _, _, _, _⟩) (v := ?vg15) rfl (by kernel_rfl) (by kernel_rfl) (by kernel_rfl) (fun _ _ _ h => h) (Or.inl ⟨by rfl, ?yg15⟩) (Fr.refl _ _) ?rg15
  case yg15 =>
    intro wq hSw
    (try dsimp only at hSw)
    first | (go_simp; done) | (go_simp; with_reducible rfl)
  try simp only [Act.put, List.setIfInBounds_toArray, List.set_cons_zero, List.set_cons_succ]
  refine wpAnyH_take (i := 16) (oi := ⟨some 48, _, _, _, _, _⟩) (v := ?vg16) rfl (by kernel_rfl) (by kernel_rfl) (by kernel_rfl) (fun _ _ _ h => h) (Or.inl ⟨by rfl, ?yg16⟩) (Fr.refl _ _) ?rg16
  case yg16 =>
    intro wq hSw
    (try dsimp only at hSw)
    first | (go_simp; done) | (go_simp; with_reducible rfl)
  try simp only [Act.put, List.setIfInBounds_toArray, List.set_cons_zero, List.set_cons_succ]
  refine wpAnyH_take (i := 17) (oi := ⟨some 49, _, _, _, _, _⟩) (v := ?vg17) rfl (by kernel_rfl) (by kernel_rfl) (by kernel_rfl) (fun _ _ _ h => h) (Or.inl ⟨by rfl, ?yg17⟩) (Fr.refl _ _) ?rg17
  case yg17 =>
    intro wq hSw
    (try dsimp only at hSw)
    first | (go_simp; done) | (go_simp; with_reducible rfl)
  try simp only [Act.put, List.setIfInBounds_toArray, List.set_cons_zero, List.set_cons_succ]
  refine wpAnyH_take (i := 18) (oi := ⟨some 50, _, _, _, _, _⟩) (v := ?vg18) rfl (by kernel_rfl) (by kernel_rfl) (by kernel_rfl) (fun _ _ _ h => h) (Or.inl ⟨by rfl, ?yg18⟩) (Fr.refl _ _) ?rg18
  case yg18 =>
    intro wq hSw
    (try dsimp only at hSw)
    first | (go_simp; done) | (go_simp; with_reducible rfl)
  try simp only [Act.put, List.setIfInBounds_toArray, List.set_cons_zero, List.set_cons_succ]
  refine wpAnyH_take (i := 19) (oi := ⟨some 51, _, _, _, _, _⟩) (v := ?vg19) rfl (by kernel_rfl) (by kernel_rfl) (by kernel_rfl) (fun _ _ _ h => h) (Or.inl ⟨by rfl, ?yg19⟩) (Fr.refl _ _) ?rg19
  case yg19 =>
    intro wq hSw
    (try dsimp only at hSw)
    first | (go_simp; done) | (go_simp; with_reducible rfl)
  try simp only [Act.put, List.setIfInBounds_toArray, List.set_cons_zero, List.set_cons_succ]
  refine wpAnyH_take (i := 20) (oi := ⟨some 52, _, _, _, _, _⟩) (v := ?vg20) rfl (by kernel_rfl) (by kernel_rfl) (by kernel_rfl) (fun _ _ _ h => h) (Or.inl ⟨by rfl, ?yg20⟩) (Fr.refl _ _) ?rg20
  case yg20 =>
    intro wq hSw
    (try dsimp only at hSw)
    first | (go_simp; done) | (go_simp; with_reducible rfl)
  try simp only [Act.put, List.setIfInBounds_toArray, List.set_cons_zero, List.set_cons_succ]
  refine wpAnyH_take (i := 21) (oi := ⟨some 53, _, _, _, _, _⟩) (v := ?vg21) rfl (by kernel_rfl) (by kernel_rfl) (by kernel_rfl) (fun _ _ _ h => h) (Or.inl ⟨by rfl, ?yg21⟩) (Fr.refl _ _) ?rg21
  case yg21 =>
    intro wq hSw
    (try dsimp only at hSw)
    first | (go_simp; done) | (go_simp; with_reducible rfl)
  try simp only [Act.put, List.setIfInBounds_toArray, List.set_cons_zero, List.set_cons_succ]
  refine wpAnyH_take (i := 22) (oi := ⟨some 54, _, _, _, _, _⟩) (v := ?vg22) rfl (by kernel_rfl) (by kernel_rfl) (by kernel_rfl) (fun _ _ _ h => h) (Or.inl ⟨by rfl, ?yg22⟩) (Fr.refl _ _) ?rg22
  case yg22 =>
    intro wq hSw
    (try dsimp only at hSw)
    first | (go_simp; done) | (go_simp; with_reducible rfl)
  try simp only [Act.put, List.setIfInBounds_toArray, List.set_cons_zero, List.set_cons_succ]
  refine wpAnyH_take (i := 23) (oi := ⟨some 55, _, _, _, _, _⟩) (v := ?vg23) rfl (by kernel_rfl) (by kernel_rfl) (by kernel_rfl) (fun _ _ _ h => h) (Or.inl ⟨by rfl, ?yg23⟩) (Fr.refl _ _) ?rg23
  case yg23 =>
    intro wq hSw
    (try dsimp only at hSw)
    first | (go_simp; done) | (go_simp; with_reducible rfl)
  try simp only [Act.put, List.setIfInBounds_toArray, List.set_cons_zero, List.set_cons_succ]
  refine wpAnyH_take (i := 24) (oi := ⟨some 56, _, _, _, _, _⟩) (v := ?vg24) rfl (by kernel_rfl) (by kernel_rfl) (by kernel_rfl) (fun _ _ _ h => h) (Or.inl ⟨by rfl, ?yg24⟩) (Fr.refl _ _) ?rg24
  case yg24 =>
    intro wq hSw
    (try dsimp only at hSw)
    first | (go_simp; done) | (go_simp; with_reducible rfl)
  try simp only [Act.put, List.setIfInBounds_toArray, List.set_cons_zero, List.set_cons_succ]
  refine wpAnyH_take (i := 25) (oi := ⟨some 57, _, _, _, _, _⟩) (v := ?vg25) rfl (by kernel_rfl) (by kernel_rfl) (by kernel_rfl) (fun _ _ _ h => h) (Or.inl ⟨by rfl, ?yg25⟩) (Fr.refl _ _) ?rg25
  case yg25 =>
    intro wq hSw
    (try dsimp only at hSw)
    first | (go_simp; done) | (go_simp; with_reducible rfl)
  try simp only [Act.put, List.setIfInBounds_toArray, List.set_cons_zero, List.set_cons_succ]
  refine wpAnyH_take (i := 26) (oi := ⟨some 58, _, _, _, _, _⟩) (v := ?vg26) rfl (by kernel_rfl) (by kernel_rfl) (by kernel_rfl) (fun _ _ _ h => h) (Or.inl ⟨by rfl, ?yg26⟩) (Fr.refl _ _) ?rg26
  case yg26 =>
    intro wq hSw
    (try dsimp only at hSw)
    first | (go_simp; done) | (go_simp; with_reducible rfl)
  try simp only [Act.put, List.setIfInBounds_toArray, List.set_cons_zero, List.set_cons_succ]
  refine wpAnyH_take (i := 27) (oi := ⟨some 59, _, _, _, _, _⟩) (v := ?vg27) rfl (by kernel_rfl) (by kernel_rfl) (by kernel_rfl) (fun _ _ _ h => h) (Or.inl ⟨by rfl, ?yg27⟩) (Fr.refl _ _) ?rg27
  case yg27 =>
    intro wq hSw
    (try dsimp only at hSw)
    have kk := str_of (SC1.out.fr hSw (fun _ _ _ _ h => h))
    first | (go_simp; done) | (go_simp; with_reducible rfl)
  try simp only [Act.put, List.setIfInBounds_toArray, List.set_cons_zero, List.set_cons_succ]
  refine wpAnyH_ready (rs := [28]) (by kernel_rfl) (by simp) ?_
  refine AllReadyH.cons (o := ⟨some 60, _, _, _, _, _⟩) rfl (fun K hK => ?_) AllReadyH.nil
  go_simp
  have hh := full_at 9 9 rfl
  refine (hh _).mono ?_; clear hh; rintro e w12 ⟨A12, n12, c12, rfl, hs12, hb12, -⟩
  have LC := Lib.hid (LB.out.later DK hb12)
  have S12 := Lib.hid hs12
  have hfr := Fr.of_below (S := fun _ => False) hb12
  clear hs12 hb12
  go_wp2_with fail
  refine hK.out _ _ hfr (fun hHeld => ?_)
  clear hK K hHeld
  try simp only [Act.put, List.setIfInBounds_toArray, List.set_cons_zero, List.set_cons_succ]
  refine wpAnyH_re (S' := fun w' => Fr (fun _ => False) w12 w') (fun w' h => hfr.trans h) ?_
  clear hfr
  refine wpAnyH_take (i := 29) (oi := ⟨some 61, _, _, _, _, _⟩) (v := ?vg29) rfl (by kernel_rfl) (by kernel_rfl) (by kernel_rfl) (fun _ _ _ h => h) (Or.inl ⟨by rfl, ?yg29⟩) (Fr.refl _ _) ?rg29
  case yg29 =>
    intro wq hSw
    (try dsimp only at hSw)
    have kk := str_of (S12.out.fr hSw (fun _ _ _ _ h => h))
    first | (go_simp; done) | (go_simp; with_reducible rfl)
  try simp only [Act.put, List.setIfInBounds_toArray, List.set_cons_zero, List.set_cons_succ]
  refine wpAnyH_take (i := 30) (oi := ⟨some 62, _, _, _, _, _⟩) (v := ?vg30) rfl (by kernel_rfl) (by kernel_rfl) (by kernel_rfl) (fun _ _ _ h => h) (Or.inl ⟨by rfl, ?yg30⟩) (Fr.refl _ _) ?rg30
  case yg30 =>
    intro wq hSw
    (try dsimp only at hSw)
    first | (go_simp; done) | (go_simp; with_reducible rfl)
  try simp only [Act.put, List.setIfInBounds_toArray, List.set_cons_zero, List.set_cons_succ]
  refine wpAnyH_take (i := 31) (oi := ⟨some 63, _, _, _, _, _⟩) (v := ?vg31) rfl (by kernel_rfl) (by kernel_rfl) (by kernel_rfl) (fun _ _ _ h => h) (Or.inl ⟨by rfl, ?yg31⟩) (Fr.refl _ _) ?rg31
  case yg31 =>
    intro wq hSw
    (try dsimp only at hSw)
    first | (go_simp; done) | (go_simp; with_reducible rfl)
  try simp only [Act.put, List.setIfInBounds_toArray, List.set_cons_zero, List.set_cons_succ]
  refine wpAnyH_take (i := 32) (oi := ⟨some 64, _, _, _, _, _⟩) (v := ?vg32) rfl (by kernel_rfl) (by kernel_rfl) (by kernel_rfl) (fun _ _ _ h => h) (Or.inl ⟨by rfl, ?yg32⟩) (Fr.refl _ _) ?rg32
  case yg32 =>
    intro wq hSw
    (try dsimp only at hSw)
    first | (go_simp; done) | (go_simp; with_reducible rfl)
  try simp only [Act.put, List.setIfInBounds_toArray, List.set_cons_zero, List.set_cons_succ]
  refine wpAnyH_take (i := 33) (oi := ⟨some 65, _, _, _, _, _⟩) (v := ?vg33) rfl (by kernel_rfl) (by kernel_rfl) (by kernel_rfl) (fun _ _ _ h => h) (Or.inl ⟨by rfl, ?yg33⟩) (Fr.refl _ _) ?rg33
  case yg33 =>
    intro wq hSw
    (try dsimp only at hSw)
    first | (go_simp; done) | (go_simp; with_reducible rfl)
  try simp only [Act.put, List.setIfInBounds_toArray, List.set_cons_zero, List.set_cons_succ]
  refine wpAnyH_ready (rs := [34]) (by kernel_rfl) (by simp) ?_
  refine AllReadyH.cons (o := ⟨some 66, _, _, _, _, _⟩) rfl (fun K hK => ?_) AllReadyH.nil
  go_simp
  refine (LC.out.sectors DK).mono ?_; rintro e w13 ⟨rfl, hb13⟩
  rw [hn10]
  have LD := Lib.hid (LC.out.later DK hb13)
  have hfr := Fr.of_below (S := fun _ => False) hb13
  clear hb13
  go_wp2_with fail
  refine hK.out _ _ hfr (fun hHeld => ?_)
  clear hK K hHeld
  try simp only [Act.put, List.setIfInBounds_toArray, List.set_cons_zero, List.set_cons_succ]
  refine wpAnyH_re (S' := fun w' => Fr (fun _ => False) w13 w') (fun w' h => hfr.trans h) ?_
  clear hfr
  refine wpAnyH_take (i := 35) (oi := ⟨some 67, _, _, _, _, _⟩) (v := ?vg35) rfl (by kernel_rfl) (by kernel_rfl) (by kernel_rfl) (fun _ _ _ h => h) (Or.inl ⟨by rfl, ?yg35⟩) (Fr.refl _ _) ?rg35
  case yg35 =>
    intro wq hSw
    (try dsimp only at hSw)
    first | (go_simp; done) | (go_simp; with_reducible rfl)
  try simp only [Act.put, List.setIfInBounds_toArray, List.set_cons_zero, List.set_cons_succ]
  refine wpAnyH_take (i := 36) (oi := ⟨some 68, _, _, _, _, _⟩) (v := ?vg36) rfl (by kernel_rfl) (by kernel_rfl) (by kernel_rfl) (fun _ _ _ h => h) (Or.inl ⟨by rfl, ?yg36⟩) (Fr.refl _ _) ?rg36
  case yg36 =>
    intro wq hSw
    (try dsimp only at hSw)
    first | (go_simp; done) | (go_simp; with_reducible rfl)
  try simp only [Act.put, List.setIfInBounds_toArray, List.set_cons_zero, List.set_cons_succ]
  refine wpAnyH_take (i := 37) (oi := ⟨some 69, _, _, _, _, _⟩) (v := ?vg37) rfl (by kernel_rfl) (by kernel_rfl) (by kernel_rfl) (fun _ _ _ h => h) (Or.inl ⟨by rfl, ?yg37⟩) (Fr.refl _ _) ?rg37
  case yg37 =>
    intro wq hSw
    (try dsimp only at hSw)
    first | (go_simp; done) | (go_simp; with_reducible rfl)
  try simp only [Act.put, List.setIfInBounds_toArray, List.set_cons_zero, List.set_cons_succ]
  refine wpAnyH_ready (rs := [38]) (by kernel_rfl) (by simp) ?_
  refine AllReadyH.cons (o := ⟨some 70, _, _, _, _, _⟩) rfl (fun K hK => ?_) AllReadyH.nil
  go_simp
  refine (DK.new_no 0 _ (by omega) (by omega) (by omega)).mono ?_; rintro e w14 ⟨rfl, hb14⟩
  have LE := Lib.hid (LD.out.later DK hb14)
  have hfr := Fr.of_below (S := fun _ => False) hb14
  clear hb14
  go_wp2_with fail
  refine hK.out _ _ hfr (fun hHeld => ?_)
  clear hK K hHeld
  try simp only [Act.put, List.setIfInBounds_toArray, List.set_cons_zero, List.set_cons_succ]
  refine wpAnyH_re (S' := fun w' => Fr (fun _ => False) w14 w') (fun w' h => hfr.trans h) ?_
  clear hfr
  refine wpAnyH_take (i := 39) (oi := ⟨some 71, _, _, _, _, _⟩) (v := ?vg39) rfl (by kernel_rfl) (by kernel_rfl) (by kernel_rfl) (fun _ _ _ h => h) (Or.inl ⟨by rfl, ?yg39⟩) (Fr.refl _ _) ?rg39
  case yg39 =>
    intro wq hSw
    (try dsimp only at hSw)
    first | (go_simp; done) | (go_simp; with_reducible rfl)
  try simp only [Act.put, List.setIfInBounds_toArray, List.set_cons_zero, List.set_cons_succ]
  refine wpAnyH_take (i := 40) (oi := ⟨some 72, _, _, _, _, _⟩) (v := ?vg40) rfl (by kernel_rfl) (by kernel_rfl) (by kernel_rfl) (fun _ _ _ h => h) (Or.inl ⟨by rfl, ?yg40⟩) (Fr.refl _ _) ?rg40
  case yg40 =>
    intro wq hSw
    (try dsimp only at hSw)
    first | (go_simp; done) | (go_simp; with_reducible rfl)
  try simp only [Act.put, List.setIfInBounds_toArray, List.set_cons_zero, List.set_cons_succ]
  refine wpAnyH_take (i := 41) (oi := ⟨some 0, _, _, _, _, _⟩) (v := ?vg41) rfl (by kernel_rfl) (by kernel_rfl) (by kernel_rfl) (fun _ _ _ h => h) (Or.inl ⟨by rfl, ?yg41⟩) (Fr.refl _ _) ?rg41
  case yg41 =>
    intro wq hSw
    (try dsimp only at hSw)
    first | (go_simp; done) | (go_simp; with_reducible rfl)
  try simp only [Act.put, List.setIfInBounds_toArray, List.set_cons_zero, List.set_cons_succ]
  refine wpAnyH_done (by kernel_rfl) ?_ _
  go_wp2_with fail
  go_ret
  exact ⟨rfl, LE.out.bel⟩
end Go.Proofs.Ytmlmlmlbdjhfhaa
