/-
  Layer 9's act and alike, over DrvK: an act is done to both drives; drives that are the same are told to be. (Written by gen_dsk.py.)
-/
import Derived.Test.YtmlmlmlbdjhfhaaDsj
import Derived.Test.YtmlmlmlbdjhfhaaDri
import Derived.Deep.RegionHeld3
namespace Go.Proofs.Ytmlmlmlbdjhfhaa
open Go.RowKit Go.Proofs
set_option linter.unusedVariables false

section
variable {Rep : World → (Nat → Prop) → Nat → Dv → Prop} {w0 w w' : World} {S : Nat → Prop} {D X k : Nat} {x xd xr y : Dv}
/-- What act answers. -/
def RetAct9 (Rep : World → (Nat → Prop) → Nat → Dv → Prop) (w0 w : World) (S : Nat → Prop) (D X k : Nat) (xd xr : Dv) (a : Ac) (e : Ending) (w' : World) : Prop := ∃ β S', e = .returned (.bool β) ∧ Pq Rep w0 w' S' D X (k + 2) (xd.act a) (xr.act a) ∧ Nx S S' w w'
theorem Pq.storedA (DK : DrvK Rep) (h : Pq Rep w0 w S D X k x xr) (z : Int) (h1 : -9223372036854775808 ≤ z) (h2 : z < 9223372036854775808) : Calls Try.prog 42 #[.pointer (some ⟨D, 0, none⟩), .int .i64 z] w fun e w' => ∃ A n c, e = .returned (.slice A n c) ∧ Sl w' 1 A n c (cells (x.storedL z)) ∧ Below w.heap.size w w' := by
  obtain ⟨Sa, Sb, hd, hr, hdj, hS⟩ := h.ex
  exact (DK.stored z h1 h2 hd).mono fun e w' ⟨A, n, c, he, hs, hb, _⟩ => ⟨A, n, c, he, hs, hb⟩
theorem Pq.storedX (DK : DrvK Rep) (h : Pq Rep w0 w S D X k xd x) (hk : k ≤ 100000) (z : Int) (h1 : -9223372036854775808 ≤ z) (h2 : z < 9223372036854775808) : Calls Try.prog 43 #[.pointer (some ⟨X, 0, none⟩), .int .i64 z] w (RetB9 w (x.storedL z)) := by
  obtain ⟨Sa, Sb, hd, ⟨_, AL, cL, ls, AW, cW, ws, hg⟩, hdj, hS⟩ := h.ex
  exact rfstored_any z h1 h2 hk hg
theorem Pq.rottenA (DK : DrvK Rep) (h : Pq Rep w0 w S D X k x xr) (z : Int) (h1 : -9223372036854775808 ≤ z) (h2 : z < 9223372036854775808) : Calls Try.prog 16 #[.pointer (some ⟨D, 0, none⟩), .int .i64 z] w fun e w' => e = .returned (.bool (x.rottenB z)) ∧ Below w.heap.size w w' := by
  obtain ⟨Sa, Sb, hd, hr, hdj, hS⟩ := h.ex
  exact DK.rotten z h1 h2 hd
theorem Pq.rottenX (DK : DrvK Rep) (h : Pq Rep w0 w S D X k xd x) (hk : k ≤ 100000) (z : Int) (h1 : -9223372036854775808 ≤ z) (h2 : z < 9223372036854775808) : Calls Try.prog 44 #[.pointer (some ⟨X, 0, none⟩), .int .i64 z] w fun e w' => e = .returned (.bool (x.rottenB z)) ∧ Below w.heap.size w w' := by
  obtain ⟨Sa, Sb, hd, ⟨_, AL, cL, ls, AW, cW, ws, hg⟩, hdj, hS⟩ := h.ex
  exact (rfrotten_any z h1 h2 hk hg).mono fun e w' h => ⟨h.1, by rw [h.2]; exact Below.refl _ _⟩
theorem Pq.readA (DK : DrvK Rep) (h : Pq Rep w0 w S D X k x xr) (hk : k ≤ 100000) (z : Int) (h1 : -9223372036854775808 ≤ z) (h2 : z < 9223372036854775808) : Calls Try.prog 13 #[.pointer (some ⟨D, 0, none⟩), .int .i64 z] w (RetRd9 w x z) := by
  obtain ⟨Sa, Sb, hd, hr, hdj, hS⟩ := h.ex
  exact (DK.read z h1 h2 (Nat.le_trans h.wl hk) hd).mono fun e w' ⟨A, n, c, he, hs, hb, _⟩ => ⟨A, n, c, he, hs, hb⟩
theorem Pq.readX (DK : DrvK Rep) (h : Pq Rep w0 w S D X k xd x) (hk : k ≤ 100000) (z : Int) (h1 : -9223372036854775808 ≤ z) (h2 : z < 9223372036854775808) : Calls Try.prog 41 #[.pointer (some ⟨X, 0, none⟩), .int .i64 z] w (RetRd9 w x z) := by
  obtain ⟨Sa, Sb, hd, ⟨_, AL, cL, ls, AW, cW, ws, hg⟩, hdj, hS⟩ := h.ex
  exact rfread_any z h1 h2 hk hg
set_option maxRecDepth 20000
set_option maxHeartbeats 6400000
theorem alike9_any (DK : DrvK Rep) (h : Pq Rep w0 w S D X k x x) (hk : k ≤ 100000) (at_ : Int) (h1 : -9223372036854775808 ≤ at_) (h2 : at_ < 9223372036854775808) : Calls Try.prog 24 #[.pointer (some ⟨D, 0, none⟩), .pointer (some ⟨X, 0, none⟩), .int .i64 at_] w (SaysTrue w) := by
  have hA := h.readA DK hk at_ h1 h2
  have H0 := Lib.hid h
  obtain ⟨lr, hlr⟩ : ∃ lr, lr = x.readL at_ := ⟨_, rfl⟩
  obtain ⟨rx, hrx⟩ : ∃ rx, rx = x.readX at_ := ⟨_, rfl⟩
  have Hlr := Lib.hid hlr
  have Hrx := Lib.hid hrx
  unfold RetRd9 at hA
  rw [← hlr, ← hrx] at hA
  clear h hlr hrx
  go_enter Try.func24, Try.ntmps24
  go_wp2_with fail
  refine hA.mono ?_; clear hA; rintro e w2 ⟨A2, n2, c2, rfl, hs, hb⟩
  have SB := Lib.hid hs
  have HB2 := Lib.hid hb
  have H2 := Lib.hid (H0.out.later DK hb)
  clear hs hb
  go_wp2_with fail
  have hX := H2.out.readX DK hk at_ h1 h2
  unfold RetRd9 at hX
  rw [← Hlr.out, ← Hrx.out] at hX
  refine hX.mono ?_; clear hX; rintro e w4 ⟨A4, n4, c4, rfl, hs, hb⟩
  have SC := Lib.hid (show Sl w4.drew 1 A4 n4 c4 (cells lr) from hs.drew)
  have SB := Lib.hid (show Sl w4.drew 1 A2 n2 c2 (cells lr) from (SB.out.below hb (Nat.le_refl _)).drew)
  have hd := Lib.hid ((H2.out.later DK hb).later DK (Below.drew (Below.refl _ _)))
  have HB4 := Lib.hid (Below.drew (HB2.out.trans (hb.mono HB2.out.size)))
  clear hs hb H2 H0
  go_wp2_with fail
  refine wp_region_held_drew (S := fun w' => Fr (fun _ => False) w4.drew w') (by kernel_rfl) (Fr.refl _ _) (fun hHeld => ?_)
  clear hHeld
  refine wpAnyH_take (i := 0) (oi := ⟨some 23, _, _, _, _, _⟩) (v := ?vd0) rfl (by kernel_rfl) (by kernel_rfl) (by kernel_rfl) (fun _ _ _ h => h) (Or.inl ⟨by rfl, ?yd0⟩) (Fr.refl _ _) ?rd0
  case yd0 =>
    intro wq hSw
    (try dsimp only at hSw)
    first | (go_simp; done) | (go_simp; with_reducible rfl)
  try simp only [Act.put, List.setIfInBounds_toArray, List.set_cons_zero, List.set_cons_succ]
  refine wpAnyH_take (i := 1) (oi := ⟨some 24, _, _, _, _, _⟩) (v := ?vd1) rfl (by kernel_rfl) (by kernel_rfl) (by kernel_rfl) (fun _ _ _ h => h) (Or.inl ⟨by rfl, ?yd1⟩) (Fr.refl _ _) ?rd1
  case yd1 =>
    intro wq hSw
    (try dsimp only at hSw)
    have k1 := str_of (SB.out.fr hSw (fun _ _ _ _ h => h))
    first | (go_simp; done) | (go_simp; with_reducible rfl)
  try simp only [Act.put, List.setIfInBounds_toArray, List.set_cons_zero, List.set_cons_succ]
  refine wpAnyH_take (i := 2) (oi := ⟨some 25, _, _, _, _, _⟩) (v := ?vd2) rfl (by kernel_rfl) (by kernel_rfl) (by kernel_rfl) (fun _ _ _ h => h) (Or.inl ⟨by rfl, ?yd2⟩) (Fr.refl _ _) ?rd2
  case yd2 =>
    intro wq hSw
    (try dsimp only at hSw)
    first | (go_simp; done) | (go_simp; with_reducible rfl)
  try simp only [Act.put, List.setIfInBounds_toArray, List.set_cons_zero, List.set_cons_succ]
  refine wpAnyH_take (i := 3) (oi := ⟨some 26, _, _, _, _, _⟩) (v := ?vd3) rfl (by kernel_rfl) (by kernel_rfl) (by kernel_rfl) (fun _ _ _ h => h) (Or.inl ⟨by rfl, ?yd3⟩) (Fr.refl _ _) ?rd3
  case yd3 =>
    intro wq hSw
    (try dsimp only at hSw)
    have k1 := str_of (SC.out.fr hSw (fun _ _ _ _ h => h))
    first | (go_simp; done) | (go_simp; with_reducible rfl)
  try simp only [Act.put, List.setIfInBounds_toArray, List.set_cons_zero, List.set_cons_succ]
  refine wpAnyH_take (i := 4) (oi := ⟨some 27, _, _, _, _, _⟩) (v := ?vd4) rfl (by kernel_rfl) (by kernel_rfl) (by kernel_rfl) (fun _ _ _ h => h) (Or.inl ⟨by rfl, ?yd4⟩) (Fr.refl _ _) ?rd4
  case yd4 =>
    intro wq hSw
    (try dsimp only at hSw)
    first | (go_simp; done) | (go_simp; with_reducible rfl)
  try simp only [Act.put, List.setIfInBounds_toArray, List.set_cons_zero, List.set_cons_succ]
  refine wpAnyH_take (i := 5) (oi := ⟨some 28, _, _, _, _, _⟩) (v := ?vd5) rfl (by kernel_rfl) (by kernel_rfl) (by kernel_rfl) (fun _ _ _ h => h) (Or.inl ⟨by rfl, ?yd5⟩) (Fr.refl _ _) ?rd5
  case yd5 =>
    intro wq hSw
    (try dsimp only at hSw)
    first | (go_simp; done) | (go_simp; with_reducible rfl)
  try simp only [Act.put, List.setIfInBounds_toArray, List.set_cons_zero, List.set_cons_succ]
  refine wpAnyH_take (i := 6) (oi := ⟨some 29, _, _, _, _, _⟩) (v := ?vd6) rfl (by kernel_rfl) (by kernel_rfl) (by kernel_rfl) (fun _ _ _ h => h) (Or.inl ⟨by rfl, ?yd6⟩) (Fr.refl _ _) ?rd6
  case yd6 =>
    intro wq hSw
    (try dsimp only at hSw)
    first | (go_simp; done) | (go_simp; with_reducible rfl)
  try simp only [Act.put, List.setIfInBounds_toArray, List.set_cons_zero, List.set_cons_succ]
  refine wpAnyH_take (i := 7) (oi := ⟨some 30, _, _, _, _, _⟩) (v := ?vd7) rfl (by kernel_rfl) (by kernel_rfl) (by kernel_rfl) (fun _ _ _ h => h) (Or.inl ⟨by rfl, ?yd7⟩) (Fr.refl _ _) ?rd7
  case yd7 =>
    intro wq hSw
    (try dsimp only at hSw)
    first | (go_simp; done) | (go_simp; with_reducible rfl)
  try simp only [Act.put, List.setIfInBounds_toArray, List.set_cons_zero, List.set_cons_succ]
  refine wpAnyH_take (i := 8) (oi := ⟨some 31, _, _, _, _, _⟩) (v := ?vd8) rfl (by kernel_rfl) (by kernel_rfl) (by kernel_rfl) (fun _ _ _ h => h) (Or.inl ⟨by rfl, ?yd8⟩) (Fr.refl _ _) ?rd8
  case yd8 =>
    intro wq hSw
    (try dsimp only at hSw)
    first | (go_simp; done) | (go_simp; with_reducible rfl)
  try simp only [Act.put, List.setIfInBounds_toArray, List.set_cons_zero, List.set_cons_succ]
  refine wpAnyH_take (i := 9) (oi := ⟨some 32, _, _, _, _, _⟩) (v := ?vd9) rfl (by kernel_rfl) (by kernel_rfl) (by kernel_rfl) (fun _ _ _ h => h) (Or.inl ⟨by rfl, ?yd9⟩) (Fr.refl _ _) ?rd9
  case yd9 =>
    intro wq hSw
    (try dsimp only at hSw)
    first | (go_simp; done) | (go_simp; with_reducible rfl)
  try simp only [Act.put, List.setIfInBounds_toArray, List.set_cons_zero, List.set_cons_succ]
  refine wpAnyH_take (i := 10) (oi := ⟨some 33, _, _, _, _, _⟩) (v := ?vd10) rfl (by kernel_rfl) (by kernel_rfl) (by kernel_rfl) (fun _ _ _ h => h) (Or.inl ⟨by rfl, ?yd10⟩) (Fr.refl _ _) ?rd10
  case yd10 =>
    intro wq hSw
    (try dsimp only at hSw)
    first | (go_simp; done) | (go_simp; with_reducible rfl)
  try simp only [Act.put, List.setIfInBounds_toArray, List.set_cons_zero, List.set_cons_succ]
  refine wpAnyH_take (i := 11) (oi := ⟨some 34, _, _, _, _, _⟩) (v := ?vd11) rfl (by kernel_rfl) (by kernel_rfl) (by kernel_rfl) (fun _ _ _ h => h) (Or.inl ⟨by rfl, ?yd11⟩) (Fr.refl _ _) ?rd11
  case yd11 =>
    intro wq hSw
    (try dsimp only at hSw)
    first | (go_simp; done) | (go_simp; with_reducible rfl)
  try simp only [Act.put, List.setIfInBounds_toArray, List.set_cons_zero, List.set_cons_succ]
  refine wpAnyH_take (i := 12) (oi := ⟨some 35, _, _, _, _, _⟩) (v := ?vd12) rfl (by kernel_rfl) (by kernel_rfl) (by kernel_rfl) (fun _ _ _ h => h) (Or.inl ⟨by rfl, ?yd12⟩) (Fr.refl _ _) ?rd12
  case yd12 =>
    intro wq hSw
    (try dsimp only at hSw)
    first | (go_simp; done) | (go_simp; with_reducible rfl)
  try simp only [Act.put, List.setIfInBounds_toArray, List.set_cons_zero, List.set_cons_succ]
  refine wpAnyH_take (i := 15) (oi := ⟨some 38, _, _, _, _, _⟩) (v := ?vd15) rfl (by kernel_rfl) (by kernel_rfl) (by kernel_rfl) (fun _ _ _ h => h) (Or.inl ⟨by rfl, ?yd15⟩) (Fr.refl _ _) ?rd15
  case yd15 =>
    intro wq hSw
    (try dsimp only at hSw)
    first | (go_simp; done) | (go_simp; with_reducible rfl)
  try simp only [Act.put, List.setIfInBounds_toArray, List.set_cons_zero, List.set_cons_succ]
  refine wpAnyH_take (i := 16) (oi := ⟨some 39, _, _, _, _, _⟩) (v := ?vd16) rfl (by kernel_rfl) (by kernel_rfl) (by kernel_rfl) (fun _ _ _ h => h) (Or.inl ⟨by rfl, ?yd16⟩) (Fr.refl _ _) ?rd16
  case yd16 =>
    intro wq hSw
    (try dsimp only at hSw)
    first | (go_simp; done) | (go_simp; with_reducible rfl)
  try simp only [Act.put, List.setIfInBounds_toArray, List.set_cons_zero, List.set_cons_succ]
  refine wpAnyH_ready (rs := [13]) (by kernel_rfl) (by simp) ?_
  refine AllReadyH.cons (o := ⟨some 36, _, _, _, _, _⟩) rfl (fun K hK => ?_) AllReadyH.nil
  go_simp
  refine (hd.out.storedA DK at_ h1 h2).mono ?_; rintro e w5 ⟨A5, n5, c5, rfl, hs, hb⟩
  have SB := Lib.hid (SB.out.below hb (Nat.le_refl _))
  have SC := Lib.hid (SC.out.below hb (Nat.le_refl _))
  have SD := Lib.hid hs
  have hd := Lib.hid (hd.out.later DK hb)
  have HB4 := Lib.hid (HB4.out.trans (hb.mono HB4.out.size))
  have hfr := Fr.of_below (S := fun _ => False) hb
  clear hs hb
  go_wp2_with fail
  refine hK.out _ _ hfr (fun hHeld => ?_)
  clear hK K hHeld
  try simp only [Act.put, List.setIfInBounds_toArray, List.set_cons_zero, List.set_cons_succ]
  refine wpAnyH_re (S' := fun w' => Fr (fun _ => False) w5 w') (fun w' h => hfr.trans h) ?_
  clear hfr
  refine wpAnyH_take (i := 14) (oi := ⟨some 37, _, _, _, _, _⟩) (v := ?vd14) rfl (by kernel_rfl) (by kernel_rfl) (by kernel_rfl) (fun _ _ _ h => h) (Or.inl ⟨by rfl, ?yd14⟩) (Fr.refl _ _) ?rd14
  case yd14 =>
    intro wq hSw
    (try dsimp only at hSw)
    have k1 := str_of (SD.out.fr hSw (fun _ _ _ _ h => h))
    first | (go_simp; done) | (go_simp; with_reducible rfl)
  try simp only [Act.put, List.setIfInBounds_toArray, List.set_cons_zero, List.set_cons_succ]
  refine wpAnyH_ready (rs := [17]) (by kernel_rfl) (by simp) ?_
  refine AllReadyH.cons (o := ⟨some 40, _, _, _, _, _⟩) rfl (fun K hK => ?_) AllReadyH.nil
  go_simp
  refine (hd.out.storedX DK hk at_ h1 h2).mono ?_; rintro e w6 ⟨A6, n6, c6, rfl, hs, hb⟩
  have SD := Lib.hid (SD.out.below hb (Nat.le_refl _))
  have SE := Lib.hid hs
  have hd := Lib.hid (hd.out.later DK hb)
  have HB4 := Lib.hid (HB4.out.trans (hb.mono HB4.out.size))
  have hfr := Fr.of_below (S := fun _ => False) hb
  clear hs hb
  go_wp2_with fail
  refine hK.out _ _ hfr (fun hHeld => ?_)
  clear hK K hHeld
  try simp only [Act.put, List.setIfInBounds_toArray, List.set_cons_zero, List.set_cons_succ]
  refine wpAnyH_re (S' := fun w' => Fr (fun _ => False) w6 w') (fun w' h => hfr.trans h) ?_
  clear hfr
  refine wpAnyH_take (i := 18) (oi := ⟨some 41, _, _, _, _, _⟩) (v := ?vd18) rfl (by kernel_rfl) (by kernel_rfl) (by kernel_rfl) (fun _ _ _ h => h) (Or.inl ⟨by rfl, ?yd18⟩) (Fr.refl _ _) ?rd18
  case yd18 =>
    intro wq hSw
    (try dsimp only at hSw)
    have k1 := str_of (SE.out.fr hSw (fun _ _ _ _ h => h))
    first | (go_simp; done) | (go_simp; with_reducible rfl)
  try simp only [Act.put, List.setIfInBounds_toArray, List.set_cons_zero, List.set_cons_succ]
  refine wpAnyH_take (i := 19) (oi := ⟨some 42, _, _, _, _, _⟩) (v := ?vd19) rfl (by kernel_rfl) (by kernel_rfl) (by kernel_rfl) (fun _ _ _ h => h) (Or.inl ⟨by rfl, ?yd19⟩) (Fr.refl _ _) ?rd19
  case yd19 =>
    intro wq hSw
    (try dsimp only at hSw)
    first | (go_simp; done) | (go_simp; with_reducible rfl)
  try simp only [Act.put, List.setIfInBounds_toArray, List.set_cons_zero, List.set_cons_succ]
  refine wpAnyH_take (i := 20) (oi := ⟨some 43, _, _, _, _, _⟩) (v := ?vd20) rfl (by kernel_rfl) (by kernel_rfl) (by kernel_rfl) (fun _ _ _ h => h) (Or.inl ⟨by rfl, ?yd20⟩) (Fr.refl _ _) ?rd20
  case yd20 =>
    intro wq hSw
    (try dsimp only at hSw)
    first | (go_simp; done) | (go_simp; with_reducible rfl)
  try simp only [Act.put, List.setIfInBounds_toArray, List.set_cons_zero, List.set_cons_succ]
  refine wpAnyH_take (i := 21) (oi := ⟨some 44, _, _, _, _, _⟩) (v := ?vd21) rfl (by kernel_rfl) (by kernel_rfl) (by kernel_rfl) (fun _ _ _ h => h) (Or.inl ⟨by rfl, ?yd21⟩) (Fr.refl _ _) ?rd21
  case yd21 =>
    intro wq hSw
    (try dsimp only at hSw)
    first | (go_simp; done) | (go_simp; with_reducible rfl)
  try simp only [Act.put, List.setIfInBounds_toArray, List.set_cons_zero, List.set_cons_succ]
  refine wpAnyH_take (i := 22) (oi := ⟨some 45, _, _, _, _, _⟩) (v := ?vd22) rfl (by kernel_rfl) (by kernel_rfl) (by kernel_rfl) (fun _ _ _ h => h) (Or.inl ⟨by rfl, ?yd22⟩) (Fr.refl _ _) ?rd22
  case yd22 =>
    intro wq hSw
    (try dsimp only at hSw)
    first | (go_simp; done) | (go_simp; with_reducible rfl)
  try simp only [Act.put, List.setIfInBounds_toArray, List.set_cons_zero, List.set_cons_succ]
  refine wpAnyH_take (i := 23) (oi := ⟨some 46, _, _, _, _, _⟩) (v := ?vd23) rfl (by kernel_rfl) (by kernel_rfl) (by kernel_rfl) (fun _ _ _ h => h) (Or.inl ⟨by rfl, ?yd23⟩) (Fr.refl _ _) ?rd23
  case yd23 =>
    intro wq hSw
    (try dsimp only at hSw)
    first | (go_simp; done) | (go_simp; with_reducible rfl)
  try simp only [Act.put, List.setIfInBounds_toArray, List.set_cons_zero, List.set_cons_succ]
  refine wpAnyH_take (i := 25) (oi := ⟨some 48, _, _, _, _, _⟩) (v := ?vd25) rfl (by kernel_rfl) (by kernel_rfl) (by kernel_rfl) (fun _ _ _ h => h) (Or.inl ⟨by rfl, ?yd25⟩) (Fr.refl _ _) ?rd25
  case yd25 =>
    intro wq hSw
    (try dsimp only at hSw)
    first | (go_simp; done) | (go_simp; with_reducible rfl)
  try simp only [Act.put, List.setIfInBounds_toArray, List.set_cons_zero, List.set_cons_succ]
  refine wpAnyH_take (i := 26) (oi := ⟨some 49, _, _, _, _, _⟩) (v := ?vd26) rfl (by kernel_rfl) (by kernel_rfl) (by kernel_rfl) (fun _ _ _ h => h) (Or.inl ⟨by rfl, ?yd26⟩) (Fr.refl _ _) ?rd26
  case yd26 =>
    intro wq hSw
    (try dsimp only at hSw)
    first | (go_simp; done) | (go_simp; with_reducible rfl)
  try simp only [Act.put, List.setIfInBounds_toArray, List.set_cons_zero, List.set_cons_succ]
  refine wpAnyH_ready (rs := [24]) (by kernel_rfl) (by simp) ?_
  refine AllReadyH.cons (o := ⟨some 47, _, _, _, _, _⟩) rfl (fun K hK => ?_) AllReadyH.nil
  go_simp
  refine (hd.out.rottenA DK at_ h1 h2).mono ?_; rintro e w7 ⟨rfl, hb⟩
  have SD := Lib.hid (SD.out.below hb (Nat.le_refl _))
  have SE := Lib.hid (SE.out.below hb (Nat.le_refl _))
  have hd := Lib.hid (hd.out.later DK hb)
  have HB4 := Lib.hid (HB4.out.trans (hb.mono HB4.out.size))
  have hfr := Fr.of_below (S := fun _ => False) hb
  clear hb
  go_wp2_with fail
  refine hK.out _ _ hfr (fun hHeld => ?_)
  clear hK K hHeld
  try simp only [Act.put, List.setIfInBounds_toArray, List.set_cons_zero, List.set_cons_succ]
  refine wpAnyH_re (S' := fun w' => Fr (fun _ => False) w7 w') (fun w' h => hfr.trans h) ?_
  clear hfr
  refine wpAnyH_ready (rs := [27]) (by kernel_rfl) (by simp) ?_
  refine AllReadyH.cons (o := ⟨some 50, _, _, _, _, _⟩) rfl (fun K hK => ?_) AllReadyH.nil
  go_simp
  refine (hd.out.rottenX DK hk at_ h1 h2).mono ?_; rintro e w8 ⟨rfl, hb⟩
  have hd := Lib.hid (hd.out.later DK hb)
  have HB4 := Lib.hid (HB4.out.trans (hb.mono HB4.out.size))
  have hfr := Fr.of_below (S := fun _ => False) hb
  clear hb
  go_wp2_with fail
  refine hK.out _ _ hfr (fun hHeld => ?_)
  clear hK K hHeld
  try simp only [Act.put, List.setIfInBounds_toArray, List.set_cons_zero, List.set_cons_succ]
  refine wpAnyH_re (S' := fun w' => Fr (fun _ => False) w8 w') (fun w' h => hfr.trans h) ?_
  clear hfr
  refine wpAnyH_take (i := 28) (oi := ⟨some 51, _, _, _, _, _⟩) (v := ?vd28) rfl (by kernel_rfl) (by kernel_rfl) (by kernel_rfl) (fun _ _ _ h => h) (Or.inl ⟨by rfl, ?yd28⟩) (Fr.refl _ _) ?rd28
  case yd28 =>
    intro wq hSw
    (try dsimp only at hSw)
    first | (go_simp; done) | (go_simp; with_reducible rfl)
  try simp only [Act.put, List.setIfInBounds_toArray, List.set_cons_zero, List.set_cons_succ]
  refine wpAnyH_take (i := 29) (oi := ⟨some 52, _, _, _, _, _⟩) (v := ?vd29) rfl (by kernel_rfl) (by kernel_rfl) (by kernel_rfl) (fun _ _ _ h => h) (Or.inl ⟨by rfl, ?yd29⟩) (Fr.refl _ _) ?rd29
  case yd29 =>
    intro wq hSw
    (try dsimp only at hSw)
    first | (go_simp; done) | (go_simp; with_reducible rfl)
  try simp only [Act.put, List.setIfInBounds_toArray, List.set_cons_zero, List.set_cons_succ]
  refine wpAnyH_take (i := 30) (oi := ⟨some 6, _, _, _, _, _⟩) (v := ?vd30) rfl (by kernel_rfl) (by kernel_rfl) (by kernel_rfl) (fun _ _ _ h => h) (Or.inl ⟨by rfl, ?yd30⟩) (Fr.refl _ _) ?rd30
  case yd30 =>
    intro wq hSw
    (try dsimp only at hSw)
    first | (go_simp; done) | (go_simp; with_reducible rfl)
  try simp only [Act.put, List.setIfInBounds_toArray, List.set_cons_zero, List.set_cons_succ]
  refine wpAnyH_done (by kernel_rfl) ?_ _
  go_wp2_with fail
  go_ret
  exact ⟨rfl, HB4.out⟩
theorem act9_any (DK : DrvK Rep) (h : Pq Rep w0 w S D X k xd xr) (hk : k ≤ 90000) (a : Ac) (ha : a.Ok w0) : Calls Try.prog 22 #[.pointer (some ⟨D, 0, none⟩), .pointer (some ⟨X, 0, none⟩), .agg a.vals.toArray] w (RetAct9 Rep w0 w S D X k xd xr a) := by
  obtain ⟨kind, at_, off, c, mask, ks, KA, kc, b, BA, bc⟩ := a
  have HA := Lib.hid ha
  obtain ⟨w1, hw1⟩ : ∃ v, v = w.alloc (.cells #[.int .i64 kind, .int .i64 at_, .int .i64 off, .int .u8 (c.toNat : Int), .int .u32 (mask : Int), .slice KA ks.length kc, .slice BA b.length bc] 52) := ⟨_, rfl⟩
  have hrow : w1.heap[w.heap.size]? = some (.cells #[.int .i64 kind, .int .i64 at_, .int .i64 off, .int .u8 (c.toNat : Int), .int .u32 (mask : Int), .slice KA ks.length kc, .slice BA b.length bc] 52 (0, 0)) := by rw [hw1]; exact heap_alloc_new w _
  have hb1 : Below w.heap.size w w1 := by rw [hw1]; exact (Below.refl _ _).alloc (Nat.le_refl _) _
  have hz1 : w1.heap.size = w.heap.size + 1 := by rw [hw1]; simp
  have NB := Lib.hid (show ¬ (S w.heap.size ∨ w1.heap.size ≤ w.heap.size) from by
    rintro (q | q)
    · have := h.lt DK q; omega
    · omega)
  have NS := Lib.hid (show ¬ S w.heap.size from fun q => by have := h.lt DK q; omega)
  have P0 := Lib.hid (h.later DK hb1)
  have P1 := Lib.hid ((h.later DK hb1).later DK (Below.drew (Below.refl _ _)))
  have HB1 := Lib.hid hb1
  have Hw1 := Lib.hid hw1
  have q0 : w1.cell? ⟨w.heap.size, 0, none⟩ = some (.int .i64 kind) := by rw [cell_of_row _ _ _ _ _ _ hrow]; rfl
  have Q1 := Lib.hid (show w1.drew.cell? ⟨w.heap.size, 1, none⟩ = some (.int .i64 at_) by rw [show w1.drew.cell? ⟨w.heap.size, 1, none⟩ = w1.cell? ⟨w.heap.size, 1, none⟩ from rfl, cell_of_row _ _ _ _ _ _ hrow]; rfl)
  have Q2 := Lib.hid (show w1.drew.cell? ⟨w.heap.size, 2, none⟩ = some (.int .i64 off) by rw [show w1.drew.cell? ⟨w.heap.size, 2, none⟩ = w1.cell? ⟨w.heap.size, 2, none⟩ from rfl, cell_of_row _ _ _ _ _ _ hrow]; rfl)
  have Q3 := Lib.hid (show w1.drew.cell? ⟨w.heap.size, 3, none⟩ = some (.int .u8 (c.toNat : Int)) by rw [show w1.drew.cell? ⟨w.heap.size, 3, none⟩ = w1.cell? ⟨w.heap.size, 3, none⟩ from rfl, cell_of_row _ _ _ _ _ _ hrow]; rfl)
  have Q4 := Lib.hid (show w1.drew.cell? ⟨w.heap.size, 4, none⟩ = some (.int .u32 (mask : Int)) by rw [show w1.drew.cell? ⟨w.heap.size, 4, none⟩ = w1.cell? ⟨w.heap.size, 4, none⟩ from rfl, cell_of_row _ _ _ _ _ _ hrow]; rfl)
  have q5 : w1.cell? ⟨w.heap.size, 5, none⟩ = some (.slice KA ks.length kc) := by rw [cell_of_row _ _ _ _ _ _ hrow]; rfl
  have Q5 := Lib.hid q5
  have Q6 := Lib.hid (show w1.drew.cell? ⟨w.heap.size, 6, none⟩ = some (.slice BA b.length bc) by rw [show w1.drew.cell? ⟨w.heap.size, 6, none⟩ = w1.cell? ⟨w.heap.size, 6, none⟩ from rfl, cell_of_row _ _ _ _ _ _ hrow]; rfl)
  clear hrow hb1 hz1 hw1 h ha
  show Calls Try.prog 22 #[.pointer (some ⟨D, 0, none⟩), .pointer (some ⟨X, 0, none⟩), .agg #[.int .i64 kind, .int .i64 at_, .int .i64 off, .int .u8 (c.toNat : Int), .int .u32 (mask : Int), .slice KA ks.length kc, .slice BA b.length bc]] w _
  by_cases h0 : kind = 0
  · subst h0
    clear q5 Q5
    go_enter Try.func22, Try.ntmps22
    go_wp2_with fail
    rw [← Hw1.out]
    go_wp2_with fail
    refine wp_region_held_drew (S := fun w' => Fr (fun b => S b ∨ w1.heap.size ≤ b) w1.drew w') (by kernel_rfl) (Fr.refl _ _) (fun hHeld => ?_)
    clear hHeld
    refine wpAnyH_take (i := 0) (oi := ⟨some 13, _, _, _, _, _⟩) (v := ?va0) rfl (by kernel_rfl) (by kernel_rfl) (by kernel_rfl) (fun _ _ _ h => h) (Or.inl ⟨by rfl, ?ya0⟩) (Fr.refl _ _) ?ra0
    case ya0 =>
      intro wq hSw
      (try dsimp only at hSw)
      first | (go_simp; done) | (go_simp; with_reducible rfl)
    try simp only [Act.put, List.setIfInBounds_toArray, List.set_cons_zero, List.set_cons_succ]
    refine wpAnyH_take (i := 1) (oi := ⟨some 14, _, _, _, _, _⟩) (v := ?va1) rfl (by kernel_rfl) (by kernel_rfl) (by kernel_rfl) (fun _ _ _ h => h) (Or.inl ⟨by rfl, ?ya1⟩) (Fr.refl _ _) ?ra1
    case ya1 =>
      intro wq hSw
      (try dsimp only at hSw)
      first | (go_simp; done) | (go_simp; with_reducible rfl)
    try simp only [Act.put, List.setIfInBounds_toArray, List.set_cons_zero, List.set_cons_succ]
    refine wpAnyH_take (i := 2) (oi := ⟨some 15, _, _, _, _, _⟩) (v := ?va2) rfl (by kernel_rfl) (by kernel_rfl) (by kernel_rfl) (fun _ _ _ h => h) (Or.inl ⟨by rfl, ?ya2⟩) (Fr.refl _ _) ?ra2
    case ya2 =>
      intro wq hSw
      (try dsimp only at hSw)
      have hq := hSw.cell_some Q1.out NB.out
      first | (go_simp; done) | (go_simp; with_reducible rfl)
    try simp only [Act.put, List.setIfInBounds_toArray, List.set_cons_zero, List.set_cons_succ]
    refine wpAnyH_take (i := 3) (oi := ⟨some 16, _, _, _, _, _⟩) (v := ?va3) rfl (by kernel_rfl) (by kernel_rfl) (by kernel_rfl) (fun _ _ _ h => h) (Or.inl ⟨by rfl, ?ya3⟩) (Fr.refl _ _) ?ra3
    case ya3 =>
      intro wq hSw
      (try dsimp only at hSw)
      first | (go_simp; done) | (go_simp; with_reducible rfl)
    try simp only [Act.put, List.setIfInBounds_toArray, List.set_cons_zero, List.set_cons_succ]
    refine wpAnyH_take (i := 4) (oi := ⟨some 17, _, _, _, _, _⟩) (v := ?va4) rfl (by kernel_rfl) (by kernel_rfl) (by kernel_rfl) (fun _ _ _ h => h) (Or.inl ⟨by rfl, ?ya4⟩) (Fr.refl _ _) ?ra4
    case ya4 =>
      intro wq hSw
      (try dsimp only at hSw)
      have hq := hSw.cell_some Q3.out NB.out
      first | (go_simp; done) | (go_simp; with_reducible rfl)
    try simp only [Act.put, List.setIfInBounds_toArray, List.set_cons_zero, List.set_cons_succ]
    refine wpAnyH_take (i := 7) (oi := ⟨some 20, _, _, _, _, _⟩) (v := ?va7) rfl (by kernel_rfl) (by kernel_rfl) (by kernel_rfl) (fun _ _ _ h => h) (Or.inl ⟨by rfl, ?ya7⟩) (Fr.refl _ _) ?ra7
    case ya7 =>
      intro wq hSw
      (try dsimp only at hSw)
      first | (go_simp; done) | (go_simp; with_reducible rfl)
    try simp only [Act.put, List.setIfInBounds_toArray, List.set_cons_zero, List.set_cons_succ]
    refine wpAnyH_take (i := 8) (oi := ⟨some 21, _, _, _, _, _⟩) (v := ?va8) rfl (by kernel_rfl) (by kernel_rfl) (by kernel_rfl) (fun _ _ _ h => h) (Or.inl ⟨by rfl, ?ya8⟩) (Fr.refl _ _) ?ra8
    case ya8 =>
      intro wq hSw
      (try dsimp only at hSw)
      first | (go_simp; done) | (go_simp; with_reducible rfl)
    try simp only [Act.put, List.setIfInBounds_toArray, List.set_cons_zero, List.set_cons_succ]
    refine wpAnyH_take (i := 9) (oi := ⟨some 22, _, _, _, _, _⟩) (v := ?va9) rfl (by kernel_rfl) (by kernel_rfl) (by kernel_rfl) (fun _ _ _ h => h) (Or.inl ⟨by rfl, ?ya9⟩) (Fr.refl _ _) ?ra9
    case ya9 =>
      intro wq hSw
      (try dsimp only at hSw)
      have hq := hSw.cell_some Q1.out NB.out
      first | (go_simp; done) | (go_simp; with_reducible rfl)
    try simp only [Act.put, List.setIfInBounds_toArray, List.set_cons_zero, List.set_cons_succ]
    refine wpAnyH_take (i := 10) (oi := ⟨some 23, _, _, _, _, _⟩) (v := ?va10) rfl (by kernel_rfl) (by kernel_rfl) (by kernel_rfl) (fun _ _ _ h => h) (Or.inl ⟨by rfl, ?ya10⟩) (Fr.refl _ _) ?ra10
    case ya10 =>
      intro wq hSw
      (try dsimp only at hSw)
      first | (go_simp; done) | (go_simp; with_reducible rfl)
    try simp only [Act.put, List.setIfInBounds_toArray, List.set_cons_zero, List.set_cons_succ]
    refine wpAnyH_take (i := 11) (oi := ⟨some 24, _, _, _, _, _⟩) (v := ?va11) rfl (by kernel_rfl) (by kernel_rfl) (by kernel_rfl) (fun _ _ _ h => h) (Or.inl ⟨by rfl, ?ya11⟩) (Fr.refl _ _) ?ra11
    case ya11 =>
      intro wq hSw
      (try dsimp only at hSw)
      have hq := hSw.cell_some Q3.out NB.out
      first | (go_simp; done) | (go_simp; with_reducible rfl)
    try simp only [Act.put, List.setIfInBounds_toArray, List.set_cons_zero, List.set_cons_succ]
    refine wpAnyH_ready (rs := [5]) (by kernel_rfl) (by simp) ?_
    refine AllReadyH.cons (o := ⟨some 18, _, _, _, _, _⟩) rfl (fun K hK => ?_) AllReadyH.nil
    go_simp
    refine (full_any c _).mono ?_; rintro e w2 ⟨Aw2, nw2, cw2, rfl, hs, hb, -⟩
    have Pw2 := Lib.hid (P1.out.later DK hb)
    have Sw2 := Lib.hid hs
    have Zw2 := Lib.hid hb
    have hfr := Fr.of_below (S := fun b => S b ∨ w1.heap.size ≤ b) hb
    clear hs hb
    go_wp2_with fail
    refine hK.out _ _ hfr (fun hHeld => ?_)
    clear hK K hHeld
    try simp only [Act.put, List.setIfInBounds_toArray, List.set_cons_zero, List.set_cons_succ]
    refine wpAnyH_re (S' := fun w' => Fr (fun b => S b ∨ w1.heap.size ≤ b) w2 w') (fun w' h => hfr.trans h) ?_
    clear hfr
    refine wpAnyH_ready (rs := [6]) (by kernel_rfl) (by simp) ?_
    refine AllReadyH.cons (o := ⟨some 19, _, _, _, _, _⟩) rfl (fun K hK => ?_) AllReadyH.nil
    go_simp
    refine (Pw2.out.dwrite DK (by omega) at_ Aw2 nw2 cw2 (full c) HA.out.at1 HA.out.at2 Sw2.out).mono ?_; rintro e w3 ⟨rfl, Sw3, hp, hn⟩
    have Pw3 := Lib.hid hp
    have Nw3 := Lib.hid hn
    have hfr := hn.1.mono (fun b hb => (show S b ∨ w1.heap.size ≤ b from .inl hb))
    clear hp hn
    go_wp2_with fail
    refine hK.out _ _ hfr (fun hHeld => ?_)
    clear hK K hHeld
    try simp only [Act.put, List.setIfInBounds_toArray, List.set_cons_zero, List.set_cons_succ]
    refine wpAnyH_re (S' := fun w' => Fr (fun b => S b ∨ w1.heap.size ≤ b) w3 w') (fun w' h => hfr.trans h) ?_
    clear hfr
    refine wpAnyH_ready (rs := [12]) (by kernel_rfl) (by simp) ?_
    refine AllReadyH.cons (o := ⟨some 25, _, _, _, _, _⟩) rfl (fun K hK => ?_) AllReadyH.nil
    go_simp
    refine (full_any c _).mono ?_; rintro e w4 ⟨Aw4, nw4, cw4, rfl, hs, hb, -⟩
    have Pw4 := Lib.hid (Pw3.out.later DK hb)
    have Sw4 := Lib.hid hs
    have Zw4 := Lib.hid hb
    have hfr := Fr.of_below (S := fun b => S b ∨ w1.heap.size ≤ b) hb
    clear hs hb
    go_wp2_with fail
    refine hK.out _ _ hfr (fun hHeld => ?_)
    clear hK K hHeld
    try simp only [Act.put, List.setIfInBounds_toArray, List.set_cons_zero, List.set_cons_succ]
    refine wpAnyH_re (S' := fun w' => Fr (fun b => S b ∨ w1.heap.size ≤ b) w4 w') (fun w' h => hfr.trans h) ?_
    clear hfr
    refine wpAnyH_ready (rs := [13]) (by kernel_rfl) (by simp) ?_
    refine AllReadyH.cons (o := ⟨some 26, _, _, _, _, _⟩) rfl (fun K hK => ?_) AllReadyH.nil
    go_simp
    refine (Pw4.out.xwrite DK (by omega) at_ Aw4 nw4 cw4 (full c) HA.out.at1 HA.out.at2 Sw4.out).mono ?_; rintro e w5 ⟨rfl, Sw5, hp, hn⟩
    have Pw5 := Lib.hid hp
    have Nw5 := Lib.hid hn
    have hfr := hn.1.mono (fun b hb => (show S b ∨ w1.heap.size ≤ b from (Nw3.out.2 b hb).imp id (fun q => by have := Zw2.out.size; have : w1.drew.heap.size = w1.heap.size := rfl; omega)))
    clear hp hn
    go_wp2_with fail
    refine hK.out _ _ hfr (fun hHeld => ?_)
    clear hK K hHeld
    try simp only [Act.put, List.setIfInBounds_toArray, List.set_cons_zero, List.set_cons_succ]
    refine wpAnyH_re (S' := fun w' => Fr (fun b => S b ∨ w1.heap.size ≤ b) w5 w') (fun w' h => hfr.trans h) ?_
    clear hfr
    refine wpAnyH_take (i := 14) (oi := ⟨some 27, _, _, _, _, _⟩) (v := (.bool (decide (xd.writeX at_ (full c) = xr.writeX at_ (full c))))) rfl (by kernel_rfl) (by kernel_rfl) (by kernel_rfl) (fun _ _ _ h => h) (Or.inl ⟨by rfl, ?ya14⟩) (Fr.refl _ _) ?ra14
    case ya14 =>
      intro wq hSw
      exact step_eqi9 (x := .tmp 19) (y := .tmp 26) rfl rfl rfl rfl
    try simp only [Act.put, List.setIfInBounds_toArray, List.set_cons_zero, List.set_cons_succ]
    refine wpAnyH_take (i := 15) (oi := ⟨some 6, _, _, _, _, _⟩) (v := ?va15) rfl (by kernel_rfl) (by kernel_rfl) (by kernel_rfl) (fun _ _ _ h => h) (Or.inl ⟨by rfl, ?ya15⟩) (Fr.refl _ _) ?ra15
    case ya15 =>
      intro wq hSw
      (try dsimp only at hSw)
      first | (go_simp; done) | (go_simp; with_reducible rfl)
    try simp only [Act.put, List.setIfInBounds_toArray, List.set_cons_zero, List.set_cons_succ]
    refine wpAnyH_done (by kernel_rfl) ?_ _
    go_wp2_with fail
    go_ret
    exact ⟨_, Sw5, rfl, Pw5.out, (((Nw3.out.below ((Below.drew HB1.out).trans (Zw2.out.mono HB1.out.size))).later Zw4.out)).trans Nw5.out⟩
  by_cases h1 : kind = 1
  · subst h1
    clear q5 Q5
    go_enter Try.func22, Try.ntmps22
    go_wp2_with fail
    rw [← Hw1.out]
    go_wp2_with fail
    refine wp_region_held_drew (S := fun w' => Fr (fun b => S b ∨ w1.heap.size ≤ b) w1.drew w') (by kernel_rfl) (Fr.refl _ _) (fun hHeld => ?_)
    clear hHeld
    refine wpAnyH_take (i := 0) (oi := ⟨some 13, _, _, _, _, _⟩) (v := ?ve0) rfl (by kernel_rfl) (by kernel_rfl) (by kernel_rfl) (fun _ _ _ h => h) (Or.inl ⟨by rfl, ?ye0⟩) (Fr.refl _ _) ?re0
    case ye0 =>
      intro wq hSw
      (try dsimp only at hSw)
      first | (go_simp; done) | (go_simp; with_reducible rfl)
    try simp only [Act.put, List.setIfInBounds_toArray, List.set_cons_zero, List.set_cons_succ]
    refine wpAnyH_take (i := 1) (oi := ⟨some 14, _, _, _, _, _⟩) (v := ?ve1) rfl (by kernel_rfl) (by kernel_rfl) (by kernel_rfl) (fun _ _ _ h => h) (Or.inl ⟨by rfl, ?ye1⟩) (Fr.refl _ _) ?re1
    case ye1 =>
      intro wq hSw
      (try dsimp only at hSw)
      first | (go_simp; done) | (go_simp; with_reducible rfl)
    try simp only [Act.put, List.setIfInBounds_toArray, List.set_cons_zero, List.set_cons_succ]
    refine wpAnyH_take (i := 2) (oi := ⟨some 15, _, _, _, _, _⟩) (v := ?ve2) rfl (by kernel_rfl) (by kernel_rfl) (by kernel_rfl) (fun _ _ _ h => h) (Or.inl ⟨by rfl, ?ye2⟩) (Fr.refl _ _) ?re2
    case ye2 =>
      intro wq hSw
      (try dsimp only at hSw)
      have hq := hSw.cell_some Q1.out NB.out
      first | (go_simp; done) | (go_simp; with_reducible rfl)
    try simp only [Act.put, List.setIfInBounds_toArray, List.set_cons_zero, List.set_cons_succ]
    refine wpAnyH_take (i := 3) (oi := ⟨some 16, _, _, _, _, _⟩) (v := ?ve3) rfl (by kernel_rfl) (by kernel_rfl) (by kernel_rfl) (fun _ _ _ h => h) (Or.inl ⟨by rfl, ?ye3⟩) (Fr.refl _ _) ?re3
    case ye3 =>
      intro wq hSw
      (try dsimp only at hSw)
      first | (go_simp; done) | (go_simp; with_reducible rfl)
    try simp only [Act.put, List.setIfInBounds_toArray, List.set_cons_zero, List.set_cons_succ]
    refine wpAnyH_take (i := 4) (oi := ⟨some 17, _, _, _, _, _⟩) (v := ?ve4) rfl (by kernel_rfl) (by kernel_rfl) (by kernel_rfl) (fun _ _ _ h => h) (Or.inl ⟨by rfl, ?ye4⟩) (Fr.refl _ _) ?re4
    case ye4 =>
      intro wq hSw
      (try dsimp only at hSw)
      have hq := hSw.cell_some Q3.out NB.out
      first | (go_simp; done) | (go_simp; with_reducible rfl)
    try simp only [Act.put, List.setIfInBounds_toArray, List.set_cons_zero, List.set_cons_succ]
    refine wpAnyH_take (i := 7) (oi := ⟨some 20, _, _, _, _, _⟩) (v := ?ve7) rfl (by kernel_rfl) (by kernel_rfl) (by kernel_rfl) (fun _ _ _ h => h) (Or.inl ⟨by rfl, ?ye7⟩) (Fr.refl _ _) ?re7
    case ye7 =>
      intro wq hSw
      (try dsimp only at hSw)
      first | (go_simp; done) | (go_simp; with_reducible rfl)
    try simp only [Act.put, List.setIfInBounds_toArray, List.set_cons_zero, List.set_cons_succ]
    refine wpAnyH_take (i := 8) (oi := ⟨some 21, _, _, _, _, _⟩) (v := ?ve8) rfl (by kernel_rfl) (by kernel_rfl) (by kernel_rfl) (fun _ _ _ h => h) (Or.inl ⟨by rfl, ?ye8⟩) (Fr.refl _ _) ?re8
    case ye8 =>
      intro wq hSw
      (try dsimp only at hSw)
      first | (go_simp; done) | (go_simp; with_reducible rfl)
    try simp only [Act.put, List.setIfInBounds_toArray, List.set_cons_zero, List.set_cons_succ]
    refine wpAnyH_take (i := 9) (oi := ⟨some 22, _, _, _, _, _⟩) (v := ?ve9) rfl (by kernel_rfl) (by kernel_rfl) (by kernel_rfl) (fun _ _ _ h => h) (Or.inl ⟨by rfl, ?ye9⟩) (Fr.refl _ _) ?re9
    case ye9 =>
      intro wq hSw
      (try dsimp only at hSw)
      have hq := hSw.cell_some Q1.out NB.out
      first | (go_simp; done) | (go_simp; with_reducible rfl)
    try simp only [Act.put, List.setIfInBounds_toArray, List.set_cons_zero, List.set_cons_succ]
    refine wpAnyH_take (i := 10) (oi := ⟨some 23, _, _, _, _, _⟩) (v := ?ve10) rfl (by kernel_rfl) (by kernel_rfl) (by kernel_rfl) (fun _ _ _ h => h) (Or.inl ⟨by rfl, ?ye10⟩) (Fr.refl _ _) ?re10
    case ye10 =>
      intro wq hSw
      (try dsimp only at hSw)
      first | (go_simp; done) | (go_simp; with_reducible rfl)
    try simp only [Act.put, List.setIfInBounds_toArray, List.set_cons_zero, List.set_cons_succ]
    refine wpAnyH_take (i := 11) (oi := ⟨some 24, _, _, _, _, _⟩) (v := ?ve11) rfl (by kernel_rfl) (by kernel_rfl) (by kernel_rfl) (fun _ _ _ h => h) (Or.inl ⟨by rfl, ?ye11⟩) (Fr.refl _ _) ?re11
    case ye11 =>
      intro wq hSw
      (try dsimp only at hSw)
      have hq := hSw.cell_some Q3.out NB.out
      first | (go_simp; done) | (go_simp; with_reducible rfl)
    try simp only [Act.put, List.setIfInBounds_toArray, List.set_cons_zero, List.set_cons_succ]
    refine wpAnyH_ready (rs := [5]) (by kernel_rfl) (by simp) ?_
    refine AllReadyH.cons (o := ⟨some 18, _, _, _, _, _⟩) rfl (fun K hK => ?_) AllReadyH.nil
    go_simp
    refine (full_any c _).mono ?_; rintro e w2 ⟨Aw2, nw2, cw2, rfl, hs, hb, -⟩
    have Pw2 := Lib.hid (P1.out.later DK hb)
    have Sw2 := Lib.hid hs
    have Zw2 := Lib.hid hb
    have hfr := Fr.of_below (S := fun b => S b ∨ w1.heap.size ≤ b) hb
    clear hs hb
    go_wp2_with fail
    refine hK.out _ _ hfr (fun hHeld => ?_)
    clear hK K hHeld
    try simp only [Act.put, List.setIfInBounds_toArray, List.set_cons_zero, List.set_cons_succ]
    refine wpAnyH_re (S' := fun w' => Fr (fun b => S b ∨ w1.heap.size ≤ b) w2 w') (fun w' h => hfr.trans h) ?_
    clear hfr
    refine wpAnyH_ready (rs := [6]) (by kernel_rfl) (by simp) ?_
    refine AllReadyH.cons (o := ⟨some 19, _, _, _, _, _⟩) rfl (fun K hK => ?_) AllReadyH.nil
    go_simp
    refine (Pw2.out.dwrite DK (by omega) at_ Aw2 nw2 cw2 (full c) HA.out.at1 HA.out.at2 Sw2.out).mono ?_; rintro e w3 ⟨rfl, Sw3, hp, hn⟩
    have Pw3 := Lib.hid hp
    have Nw3 := Lib.hid hn
    have hfr := hn.1.mono (fun b hb => (show S b ∨ w1.heap.size ≤ b from .inl hb))
    clear hp hn
    go_wp2_with fail
    refine hK.out _ _ hfr (fun hHeld => ?_)
    clear hK K hHeld
    try simp only [Act.put, List.setIfInBounds_toArray, List.set_cons_zero, List.set_cons_succ]
    refine wpAnyH_re (S' := fun w' => Fr (fun b => S b ∨ w1.heap.size ≤ b) w3 w') (fun w' h => hfr.trans h) ?_
    clear hfr
    refine wpAnyH_ready (rs := [12]) (by kernel_rfl) (by simp) ?_
    refine AllReadyH.cons (o := ⟨some 25, _, _, _, _, _⟩) rfl (fun K hK => ?_) AllReadyH.nil
    go_simp
    refine (full_any c _).mono ?_; rintro e w4 ⟨Aw4, nw4, cw4, rfl, hs, hb, -⟩
    have Pw4 := Lib.hid (Pw3.out.later DK hb)
    have Sw4 := Lib.hid hs
    have Zw4 := Lib.hid hb
    have hfr := Fr.of_below (S := fun b => S b ∨ w1.heap.size ≤ b) hb
    clear hs hb
    go_wp2_with fail
    refine hK.out _ _ hfr (fun hHeld => ?_)
    clear hK K hHeld
    try simp only [Act.put, List.setIfInBounds_toArray, List.set_cons_zero, List.set_cons_succ]
    refine wpAnyH_re (S' := fun w' => Fr (fun b => S b ∨ w1.heap.size ≤ b) w4 w') (fun w' h => hfr.trans h) ?_
    clear hfr
    refine wpAnyH_ready (rs := [13]) (by kernel_rfl) (by simp) ?_
    refine AllReadyH.cons (o := ⟨some 26, _, _, _, _, _⟩) rfl (fun K hK => ?_) AllReadyH.nil
    go_simp
    refine (Pw4.out.xwrite DK (by omega) at_ Aw4 nw4 cw4 (full c) HA.out.at1 HA.out.at2 Sw4.out).mono ?_; rintro e w5 ⟨rfl, Sw5, hp, hn⟩
    have Pw5 := Lib.hid hp
    have Nw5 := Lib.hid hn
    have hfr := hn.1.mono (fun b hb => (show S b ∨ w1.heap.size ≤ b from (Nw3.out.2 b hb).imp id (fun q => by have := Zw2.out.size; have : w1.drew.heap.size = w1.heap.size := rfl; omega)))
    clear hp hn
    go_wp2_with fail
    refine hK.out _ _ hfr (fun hHeld => ?_)
    clear hK K hHeld
    try simp only [Act.put, List.setIfInBounds_toArray, List.set_cons_zero, List.set_cons_succ]
    refine wpAnyH_re (S' := fun w' => Fr (fun b => S b ∨ w1.heap.size ≤ b) w5 w') (fun w' h => hfr.trans h) ?_
    clear hfr
    refine wpAnyH_take (i := 14) (oi := ⟨some 27, _, _, _, _, _⟩) (v := (.bool (decide (xd.writeX at_ (full c) = xr.writeX at_ (full c))))) rfl (by kernel_rfl) (by kernel_rfl) (by kernel_rfl) (fun _ _ _ h => h) (Or.inl ⟨by rfl, ?ye14⟩) (Fr.refl _ _) ?re14
    case ye14 =>
      intro wq hSw
      exact step_eqi9 (x := .tmp 19) (y := .tmp 26) rfl rfl rfl rfl
    try simp only [Act.put, List.setIfInBounds_toArray, List.set_cons_zero, List.set_cons_succ]
    refine wpAnyH_take (i := 15) (oi := ⟨some 6, _, _, _, _, _⟩) (v := ?ve15) rfl (by kernel_rfl) (by kernel_rfl) (by kernel_rfl) (fun _ _ _ h => h) (Or.inl ⟨by rfl, ?ye15⟩) (Fr.refl _ _) ?re15
    case ye15 =>
      intro wq hSw
      (try dsimp only at hSw)
      first | (go_simp; done) | (go_simp; with_reducible rfl)
    try simp only [Act.put, List.setIfInBounds_toArray, List.set_cons_zero, List.set_cons_succ]
    refine wpAnyH_done (by kernel_rfl) ?_ _
    go_wp2_with fail
    go_ret
    exact ⟨_, Sw5, rfl, Pw5.out, (((Nw3.out.below ((Below.drew HB1.out).trans (Zw2.out.mono HB1.out.size))).later Zw4.out)).trans Nw5.out⟩
  by_cases h2 : kind = 2
  · subst h2
    clear q5 Q5
    go_enter Try.func22, Try.ntmps22
    go_wp2_with fail
    rw [← Hw1.out]
    go_wp2_with fail
    refine wp_region_held_drew (S := fun w' => Fr (fun b => S b ∨ w1.heap.size ≤ b) w1.drew w') (by kernel_rfl) (Fr.refl _ _) (fun hHeld => ?_)
    clear hHeld
    refine wpAnyH_take (i := 0) (oi := ⟨some 13, _, _, _, _, _⟩) (v := ?vg0) rfl (by kernel_rfl) (by kernel_rfl) (by kernel_rfl) (fun _ _ _ h => h) (Or.inl ⟨by rfl, ?yg0⟩) (Fr.refl _ _) ?rg0
    case yg0 =>
      intro wq hSw
      (try dsimp only at hSw)
      first | (go_simp; done) | (go_simp; with_reducible rfl)
    try simp only [Act.put, List.setIfInBounds_toArray, List.set_cons_zero, List.set_cons_succ]
    refine wpAnyH_take (i := 1) (oi := ⟨some 14, _, _, _, _, _⟩) (v := ?vg1) rfl (by kernel_rfl) (by kernel_rfl) (by kernel_rfl) (fun _ _ _ h => h) (Or.inl ⟨by rfl, ?yg1⟩) (Fr.refl _ _) ?rg1
    case yg1 =>
      intro wq hSw
      (try dsimp only at hSw)
      first | (go_simp; done) | (go_simp; with_reducible rfl)
    try simp only [Act.put, List.setIfInBounds_toArray, List.set_cons_zero, List.set_cons_succ]
    refine wpAnyH_take (i := 2) (oi := ⟨some 15, _, _, _, _, _⟩) (v := ?vg2) rfl (by kernel_rfl) (by kernel_rfl) (by kernel_rfl) (fun _ _ _ h => h) (Or.inl ⟨by rfl, ?yg2⟩) (Fr.refl _ _) ?rg2
    case yg2 =>
      intro wq hSw
      (try dsimp only at hSw)
      have hq := hSw.cell_some Q1.out NB.out
      first | (go_simp; done) | (go_simp; with_reducible rfl)
    try simp only [Act.put, List.setIfInBounds_toArray, List.set_cons_zero, List.set_cons_succ]
    refine wpAnyH_take (i := 3) (oi := ⟨some 16, _, _, _, _, _⟩) (v := ?vg3) rfl (by kernel_rfl) (by kernel_rfl) (by kernel_rfl) (fun _ _ _ h => h) (Or.inl ⟨by rfl, ?yg3⟩) (Fr.refl _ _) ?rg3
    case yg3 =>
      intro wq hSw
      (try dsimp only at hSw)
      first | (go_simp; done) | (go_simp; with_reducible rfl)
    try simp only [Act.put, List.setIfInBounds_toArray, List.set_cons_zero, List.set_cons_succ]
    refine wpAnyH_take (i := 4) (oi := ⟨some 17, _, _, _, _, _⟩) (v := ?vg4) rfl (by kernel_rfl) (by kernel_rfl) (by kernel_rfl) (fun _ _ _ h => h) (Or.inl ⟨by rfl, ?yg4⟩) (Fr.refl _ _) ?rg4
    case yg4 =>
      intro wq hSw
      (try dsimp only at hSw)
      have hq := hSw.cell_some Q3.out NB.out
      first | (go_simp; done) | (go_simp; with_reducible rfl)
    try simp only [Act.put, List.setIfInBounds_toArray, List.set_cons_zero, List.set_cons_succ]
    refine wpAnyH_take (i := 7) (oi := ⟨some 20, _, _, _, _, _⟩) (v := ?vg7) rfl (by kernel_rfl) (by kernel_rfl) (by kernel_rfl) (fun _ _ _ h => h) (Or.inl ⟨by rfl, ?yg7⟩) (Fr.refl _ _) ?rg7
    case yg7 =>
      intro wq hSw
      (try dsimp only at hSw)
      first | (go_simp; done) | (go_simp; with_reducible rfl)
    try simp only [Act.put, List.setIfInBounds_toArray, List.set_cons_zero, List.set_cons_succ]
    refine wpAnyH_take (i := 8) (oi := ⟨some 21, _, _, _, _, _⟩) (v := ?vg8) rfl (by kernel_rfl) (by kernel_rfl) (by kernel_rfl) (fun _ _ _ h => h) (Or.inl ⟨by rfl, ?yg8⟩) (Fr.refl _ _) ?rg8
    case yg8 =>
      intro wq hSw
      (try dsimp only at hSw)
      first | (go_simp; done) | (go_simp; with_reducible rfl)
    try simp only [Act.put, List.setIfInBounds_toArray, List.set_cons_zero, List.set_cons_succ]
    refine wpAnyH_take (i := 9) (oi := ⟨some 22, _, _, _, _, _⟩) (v := ?vg9) rfl (by kernel_rfl) (by kernel_rfl) (by kernel_rfl) (fun _ _ _ h => h) (Or.inl ⟨by rfl, ?yg9⟩) (Fr.refl _ _) ?rg9
    case yg9 =>
      intro wq hSw
      (try dsimp only at hSw)
      have hq := hSw.cell_some Q1.out NB.out
      first | (go_simp; done) | (go_simp; with_reducible rfl)
    try simp only [Act.put, List.setIfInBounds_toArray, List.set_cons_zero, List.set_cons_succ]
    refine wpAnyH_take (i := 10) (oi := ⟨some 23, _, _, _, _, _⟩) (v := ?vg10) rfl (by kernel_rfl) (by kernel_rfl) (by kernel_rfl) (fun _ _ _ h => h) (Or.inl ⟨by rfl, ?yg10⟩) (Fr.refl _ _) ?rg10
    case yg10 =>
      intro wq hSw
      (try dsimp only at hSw)
      first | (go_simp; done) | (go_simp; with_reducible rfl)
    try simp only [Act.put, List.setIfInBounds_toArray, List.set_cons_zero, List.set_cons_succ]
    refine wpAnyH_take (i := 11) (oi := ⟨some 24, _, _, _, _, _⟩) (v := ?vg11) rfl (by kernel_rfl) (by kernel_rfl) (by kernel_rfl) (fun _ _ _ h => h) (Or.inl ⟨by rfl, ?yg11⟩) (Fr.refl _ _) ?rg11
    case yg11 =>
      intro wq hSw
      (try dsimp only at hSw)
      have hq := hSw.cell_some Q3.out NB.out
      first | (go_simp; done) | (go_simp; with_reducible rfl)
    try simp only [Act.put, List.setIfInBounds_toArray, List.set_cons_zero, List.set_cons_succ]
    refine wpAnyH_ready (rs := [5]) (by kernel_rfl) (by simp) ?_
    refine AllReadyH.cons (o := ⟨some 18, _, _, _, _, _⟩) rfl (fun K hK => ?_) AllReadyH.nil
    go_simp
    refine (full_any c _).mono ?_; rintro e w2 ⟨Aw2, nw2, cw2, rfl, hs, hb, -⟩
    have Pw2 := Lib.hid (P1.out.later DK hb)
    have Sw2 := Lib.hid hs
    have Zw2 := Lib.hid hb
    have hfr := Fr.of_below (S := fun b => S b ∨ w1.heap.size ≤ b) hb
    clear hs hb
    go_wp2_with fail
    refine hK.out _ _ hfr (fun hHeld => ?_)
    clear hK K hHeld
    try simp only [Act.put, List.setIfInBounds_toArray, List.set_cons_zero, List.set_cons_succ]
    refine wpAnyH_re (S' := fun w' => Fr (fun b => S b ∨ w1.heap.size ≤ b) w2 w') (fun w' h => hfr.trans h) ?_
    clear hfr
    refine wpAnyH_ready (rs := [6]) (by kernel_rfl) (by simp) ?_
    refine AllReadyH.cons (o := ⟨some 19, _, _, _, _, _⟩) rfl (fun K hK => ?_) AllReadyH.nil
    go_simp
    refine (Pw2.out.dwrite DK (by omega) at_ Aw2 nw2 cw2 (full c) HA.out.at1 HA.out.at2 Sw2.out).mono ?_; rintro e w3 ⟨rfl, Sw3, hp, hn⟩
    have Pw3 := Lib.hid hp
    have Nw3 := Lib.hid hn
    have hfr := hn.1.mono (fun b hb => (show S b ∨ w1.heap.size ≤ b from .inl hb))
    clear hp hn
    go_wp2_with fail
    refine hK.out _ _ hfr (fun hHeld => ?_)
    clear hK K hHeld
    try simp only [Act.put, List.setIfInBounds_toArray, List.set_cons_zero, List.set_cons_succ]
    refine wpAnyH_re (S' := fun w' => Fr (fun b => S b ∨ w1.heap.size ≤ b) w3 w') (fun w' h => hfr.trans h) ?_
    clear hfr
    refine wpAnyH_ready (rs := [12]) (by kernel_rfl) (by simp) ?_
    refine AllReadyH.cons (o := ⟨some 25, _, _, _, _, _⟩) rfl (fun K hK => ?_) AllReadyH.nil
    go_simp
    refine (full_any c _).mono ?_; rintro e w4 ⟨Aw4, nw4, cw4, rfl, hs, hb, -⟩
    have Pw4 := Lib.hid (Pw3.out.later DK hb)
    have Sw4 := Lib.hid hs
    have Zw4 := Lib.hid hb
    have hfr := Fr.of_below (S := fun b => S b ∨ w1.heap.size ≤ b) hb
    clear hs hb
    go_wp2_with fail
    refine hK.out _ _ hfr (fun hHeld => ?_)
    clear hK K hHeld
    try simp only [Act.put, List.setIfInBounds_toArray, List.set_cons_zero, List.set_cons_succ]
    refine wpAnyH_re (S' := fun w' => Fr (fun b => S b ∨ w1.heap.size ≤ b) w4 w') (fun w' h => hfr.trans h) ?_
    clear hfr
    refine wpAnyH_ready (rs := [13]) (by kernel_rfl) (by simp) ?_
    refine AllReadyH.cons (o := ⟨some 26, _, _, _, _, _⟩) rfl (fun K hK => ?_) AllReadyH.nil
    go_simp
    refine (Pw4.out.xwrite DK (by omega) at_ Aw4 nw4 cw4 (full c) HA.out.at1 HA.out.at2 Sw4.out).mono ?_; rintro e w5 ⟨rfl, Sw5, hp, hn⟩
    have Pw5 := Lib.hid hp
    have Nw5 := Lib.hid hn
    have hfr := hn.1.mono (fun b hb => (show S b ∨ w1.heap.size ≤ b from (Nw3.out.2 b hb).imp id (fun q => by have := Zw2.out.size; have : w1.drew.heap.size = w1.heap.size := rfl; omega)))
    clear hp hn
    go_wp2_with fail
    refine hK.out _ _ hfr (fun hHeld => ?_)
    clear hK K hHeld
    try simp only [Act.put, List.setIfInBounds_toArray, List.set_cons_zero, List.set_cons_succ]
    refine wpAnyH_re (S' := fun w' => Fr (fun b => S b ∨ w1.heap.size ≤ b) w5 w') (fun w' h => hfr.trans h) ?_
    clear hfr
    refine wpAnyH_take (i := 14) (oi := ⟨some 27, _, _, _, _, _⟩) (v := (.bool (decide (xd.writeX at_ (full c) = xr.writeX at_ (full c))))) rfl (by kernel_rfl) (by kernel_rfl) (by kernel_rfl) (fun _ _ _ h => h) (Or.inl ⟨by rfl, ?yg14⟩) (Fr.refl _ _) ?rg14
    case yg14 =>
      intro wq hSw
      exact step_eqi9 (x := .tmp 19) (y := .tmp 26) rfl rfl rfl rfl
    try simp only [Act.put, List.setIfInBounds_toArray, List.set_cons_zero, List.set_cons_succ]
    refine wpAnyH_take (i := 15) (oi := ⟨some 6, _, _, _, _, _⟩) (v := ?vg15) rfl (by kernel_rfl) (by kernel_rfl) (by kernel_rfl) (fun _ _ _ h => h) (Or.inl ⟨by rfl, ?yg15⟩) (Fr.refl _ _) ?rg15
    case yg15 =>
      intro wq hSw
      (try dsimp only at hSw)
      first | (go_simp; done) | (go_simp; with_reducible rfl)
    try simp only [Act.put, List.setIfInBounds_toArray, List.set_cons_zero, List.set_cons_succ]
    refine wpAnyH_done (by kernel_rfl) ?_ _
    go_wp2_with fail
    go_ret
    exact ⟨_, Sw5, rfl, Pw5.out, (((Nw3.out.below ((Below.drew HB1.out).trans (Zw2.out.mono HB1.out.size))).later Zw4.out)).trans Nw5.out⟩
  by_cases h3 : kind = 3
  · subst h3
    clear q5
    go_enter Try.func22, Try.ntmps22
    go_wp2_with fail
    rw [← Hw1.out]
    go_wp2_with fail
    refine (P0.out.dflush DK (by omega)).mono ?_; rintro e w3 ⟨rfl, S3, hp, hn⟩
    have P3 := Lib.hid hp
    have N3 := Lib.hid hn
    clear hp hn
    go_wp2_with fail
    refine (P3.out.xflush DK (by omega)).mono ?_; rintro e w5 ⟨rfl, S5, hp, hn⟩
    have P5 := Lib.hid hp
    have N5 := Lib.hid hn
    clear hp hn
    go_wp2_with fail
    go_ret
    exact ⟨_, S5, rfl, P5.out.mono (by omega), (N3.out.below HB1.out).trans N5.out⟩
  by_cases h4 : kind = 4
  · subst h4
    go_enter Try.func22, Try.ntmps22
    go_wp2_with fail
    rw [← Hw1.out]
    go_wp2_with fail
    refine (P0.out.dcrash DK (by omega) KA ks.length kc ks HA.out.ks).mono ?_; rintro e w3 ⟨rfl, S3, hp, hn⟩
    have P3 := Lib.hid hp
    have N3 := Lib.hid hn
    have q5' := hn.1.cell_some Q5.out NS.out
    clear q5
    clear hp hn
    go_wp2_with fail
    refine (P3.out.xcrash DK (by omega) KA ks.length kc ks HA.out.ks).mono ?_; rintro e w5 ⟨rfl, S5, hp, hn⟩
    have P5 := Lib.hid hp
    have N5 := Lib.hid hn
    clear hp hn
    go_wp2_with fail
    go_ret
    exact ⟨_, S5, rfl, P5.out.mono (by omega), (N3.out.below HB1.out).trans N5.out⟩
  by_cases h5 : kind = 5
  · subst h5
    clear q5
    go_enter Try.func22, Try.ntmps22
    go_wp2_with fail
    rw [← Hw1.out]
    go_wp2_with fail
    refine (P0.out.dfail DK).mono ?_; rintro e w3 ⟨rfl, S3, hp, hn⟩
    have P3 := Lib.hid hp
    have N3 := Lib.hid hn
    clear hp hn
    go_wp2_with fail
    refine (P3.out.xfail DK).mono ?_; rintro e w5 ⟨rfl, S5, hp, hn⟩
    have P5 := Lib.hid hp
    have N5 := Lib.hid hn
    clear hp hn
    go_wp2_with fail
    go_ret
    exact ⟨_, S5, rfl, P5.out.mono (by omega), (N3.out.below HB1.out).trans N5.out⟩
  by_cases h6 : kind = 6
  · subst h6
    clear q5
    go_enter Try.func22, Try.ntmps22
    go_wp2_with fail
    rw [← Hw1.out]
    go_wp2_with fail
    refine (P0.out.dreplace DK).mono ?_; rintro e w3 ⟨rfl, S3, hp, hn⟩
    have P3 := Lib.hid hp
    have N3 := Lib.hid hn
    clear hp hn
    go_wp2_with fail
    refine (P3.out.xreplace DK).mono ?_; rintro e w5 ⟨rfl, S5, hp, hn⟩
    have P5 := Lib.hid hp
    have N5 := Lib.hid hn
    clear hp hn
    go_wp2_with fail
    go_ret
    exact ⟨_, S5, rfl, P5.out.mono (by omega), (N3.out.below HB1.out).trans N5.out⟩
  by_cases h7 : kind = 7
  · subst h7
    clear q5 Q5
    go_enter Try.func22, Try.ntmps22
    go_wp2_with fail
    rw [← Hw1.out]
    go_wp2_with fail
    refine wp_region_held_drew (S := fun w' => Fr (fun b => S b ∨ w1.heap.size ≤ b) w1.drew w') (by kernel_rfl) (Fr.refl _ _) (fun hHeld => ?_)
    clear hHeld
    refine wpAnyH_take (i := 0) (oi := ⟨some 59, _, _, _, _, _⟩) (v := ?vb0) rfl (by kernel_rfl) (by kernel_rfl) (by kernel_rfl) (fun _ _ _ h => h) (Or.inl ⟨by rfl, ?yb0⟩) (Fr.refl _ _) ?rb0
    case yb0 =>
      intro wq hSw
      (try dsimp only at hSw)
      first | (go_simp; done) | (go_simp; with_reducible rfl)
    try simp only [Act.put, List.setIfInBounds_toArray, List.set_cons_zero, List.set_cons_succ]
    refine wpAnyH_take (i := 1) (oi := ⟨some 60, _, _, _, _, _⟩) (v := ?vb1) rfl (by kernel_rfl) (by kernel_rfl) (by kernel_rfl) (fun _ _ _ h => h) (Or.inl ⟨by rfl, ?yb1⟩) (Fr.refl _ _) ?rb1
    case yb1 =>
      intro wq hSw
      (try dsimp only at hSw)
      first | (go_simp; done) | (go_simp; with_reducible rfl)
    try simp only [Act.put, List.setIfInBounds_toArray, List.set_cons_zero, List.set_cons_succ]
    refine wpAnyH_take (i := 2) (oi := ⟨some 61, _, _, _, _, _⟩) (v := ?vb2) rfl (by kernel_rfl) (by kernel_rfl) (by kernel_rfl) (fun _ _ _ h => h) (Or.inl ⟨by rfl, ?yb2⟩) (Fr.refl _ _) ?rb2
    case yb2 =>
      intro wq hSw
      (try dsimp only at hSw)
      have hq := hSw.cell_some Q1.out NB.out
      first | (go_simp; done) | (go_simp; with_reducible rfl)
    try simp only [Act.put, List.setIfInBounds_toArray, List.set_cons_zero, List.set_cons_succ]
    refine wpAnyH_take (i := 3) (oi := ⟨some 62, _, _, _, _, _⟩) (v := ?vb3) rfl (by kernel_rfl) (by kernel_rfl) (by kernel_rfl) (fun _ _ _ h => h) (Or.inl ⟨by rfl, ?yb3⟩) (Fr.refl _ _) ?rb3
    case yb3 =>
      intro wq hSw
      (try dsimp only at hSw)
      first | (go_simp; done) | (go_simp; with_reducible rfl)
    try simp only [Act.put, List.setIfInBounds_toArray, List.set_cons_zero, List.set_cons_succ]
    refine wpAnyH_take (i := 4) (oi := ⟨some 63, _, _, _, _, _⟩) (v := ?vb4) rfl (by kernel_rfl) (by kernel_rfl) (by kernel_rfl) (fun _ _ _ h => h) (Or.inl ⟨by rfl, ?yb4⟩) (Fr.refl _ _) ?rb4
    case yb4 =>
      intro wq hSw
      (try dsimp only at hSw)
      have hq := hSw.cell_some Q2.out NB.out
      first | (go_simp; done) | (go_simp; with_reducible rfl)
    try simp only [Act.put, List.setIfInBounds_toArray, List.set_cons_zero, List.set_cons_succ]
    refine wpAnyH_take (i := 5) (oi := ⟨some 64, _, _, _, _, _⟩) (v := ?vb5) rfl (by kernel_rfl) (by kernel_rfl) (by kernel_rfl) (fun _ _ _ h => h) (Or.inl ⟨by rfl, ?yb5⟩) (Fr.refl _ _) ?rb5
    case yb5 =>
      intro wq hSw
      (try dsimp only at hSw)
      first | (go_simp; done) | (go_simp; with_reducible rfl)
    try simp only [Act.put, List.setIfInBounds_toArray, List.set_cons_zero, List.set_cons_succ]
    refine wpAnyH_take (i := 6) (oi := ⟨some 65, _, _, _, _, _⟩) (v := ?vb6) rfl (by kernel_rfl) (by kernel_rfl) (by kernel_rfl) (fun _ _ _ h => h) (Or.inl ⟨by rfl, ?yb6⟩) (Fr.refl _ _) ?rb6
    case yb6 =>
      intro wq hSw
      (try dsimp only at hSw)
      have hq := hSw.cell_some Q4.out NB.out
      first | (go_simp; done) | (go_simp; with_reducible rfl)
    try simp only [Act.put, List.setIfInBounds_toArray, List.set_cons_zero, List.set_cons_succ]
    refine wpAnyH_take (i := 8) (oi := ⟨some 67, _, _, _, _, _⟩) (v := ?vb8) rfl (by kernel_rfl) (by kernel_rfl) (by kernel_rfl) (fun _ _ _ h => h) (Or.inl ⟨by rfl, ?yb8⟩) (Fr.refl _ _) ?rb8
    case yb8 =>
      intro wq hSw
      (try dsimp only at hSw)
      first | (go_simp; done) | (go_simp; with_reducible rfl)
    try simp only [Act.put, List.setIfInBounds_toArray, List.set_cons_zero, List.set_cons_succ]
    refine wpAnyH_take (i := 9) (oi := ⟨some 68, _, _, _, _, _⟩) (v := ?vb9) rfl (by kernel_rfl) (by kernel_rfl) (by kernel_rfl) (fun _ _ _ h => h) (Or.inl ⟨by rfl, ?yb9⟩) (Fr.refl _ _) ?rb9
    case yb9 =>
      intro wq hSw
      (try dsimp only at hSw)
      first | (go_simp; done) | (go_simp; with_reducible rfl)
    try simp only [Act.put, List.setIfInBounds_toArray, List.set_cons_zero, List.set_cons_succ]
    refine wpAnyH_take (i := 10) (oi := ⟨some 69, _, _, _, _, _⟩) (v := ?vb10) rfl (by kernel_rfl) (by kernel_rfl) (by kernel_rfl) (fun _ _ _ h => h) (Or.inl ⟨by rfl, ?yb10⟩) (Fr.refl _ _) ?rb10
    case yb10 =>
      intro wq hSw
      (try dsimp only at hSw)
      have hq := hSw.cell_some Q1.out NB.out
      first | (go_simp; done) | (go_simp; with_reducible rfl)
    try simp only [Act.put, List.setIfInBounds_toArray, List.set_cons_zero, List.set_cons_succ]
    refine wpAnyH_take (i := 11) (oi := ⟨some 70, _, _, _, _, _⟩) (v := ?vb11) rfl (by kernel_rfl) (by kernel_rfl) (by kernel_rfl) (fun _ _ _ h => h) (Or.inl ⟨by rfl, ?yb11⟩) (Fr.refl _ _) ?rb11
    case yb11 =>
      intro wq hSw
      (try dsimp only at hSw)
      first | (go_simp; done) | (go_simp; with_reducible rfl)
    try simp only [Act.put, List.setIfInBounds_toArray, List.set_cons_zero, List.set_cons_succ]
    refine wpAnyH_take (i := 12) (oi := ⟨some 71, _, _, _, _, _⟩) (v := ?vb12) rfl (by kernel_rfl) (by kernel_rfl) (by kernel_rfl) (fun _ _ _ h => h) (Or.inl ⟨by rfl, ?yb12⟩) (Fr.refl _ _) ?rb12
    case yb12 =>
      intro wq hSw
      (try dsimp only at hSw)
      have hq := hSw.cell_some Q2.out NB.out
      first | (go_simp; done) | (go_simp; with_reducible rfl)
    try simp only [Act.put, List.setIfInBounds_toArray, List.set_cons_zero, List.set_cons_succ]
    refine wpAnyH_take (i := 13) (oi := ⟨some 72, _, _, _, _, _⟩) (v := ?vb13) rfl (by kernel_rfl) (by kernel_rfl) (by kernel_rfl) (fun _ _ _ h => h) (Or.inl ⟨by rfl, ?yb13⟩) (Fr.refl _ _) ?rb13
    case yb13 =>
      intro wq hSw
      (try dsimp only at hSw)
      first | (go_simp; done) | (go_simp; with_reducible rfl)
    try simp only [Act.put, List.setIfInBounds_toArray, List.set_cons_zero, List.set_cons_succ]
    refine wpAnyH_take (i := 14) (oi := ⟨some 73, _, _, _, _, _⟩) (v := ?vb14) rfl (by kernel_rfl) (by kernel_rfl) (by kernel_rfl) (fun _ _ _ h => h) (Or.inl ⟨by rfl, ?yb14⟩) (Fr.refl _ _) ?rb14
    case yb14 =>
      intro wq hSw
      (try dsimp only at hSw)
      have hq := hSw.cell_some Q4.out NB.out
      first | (go_simp; done) | (go_simp; with_reducible rfl)
    try simp only [Act.put, List.setIfInBounds_toArray, List.set_cons_zero, List.set_cons_succ]
    refine wpAnyH_ready (rs := [7]) (by kernel_rfl) (by simp) ?_
    refine AllReadyH.cons (o := ⟨some 66, _, _, _, _, _⟩) rfl (fun K hK => ?_) AllReadyH.nil
    go_simp
    refine (P1.out.drot DK at_ off mask HA.out.at1 HA.out.at2 HA.out.off1 HA.out.off2 HA.out.mask).mono ?_; rintro e w3 ⟨rfl, Sw3, hp, hn⟩
    have Pw3 := Lib.hid hp
    have Nw3 := Lib.hid hn
    have hfr := hn.1.mono (fun b hb => (show S b ∨ w1.heap.size ≤ b from .inl hb))
    clear hp hn
    go_wp2_with fail
    refine hK.out _ _ hfr (fun hHeld => ?_)
    clear hK K hHeld
    try simp only [Act.put, List.setIfInBounds_toArray, List.set_cons_zero, List.set_cons_succ]
    refine wpAnyH_re (S' := fun w' => Fr (fun b => S b ∨ w1.heap.size ≤ b) w3 w') (fun w' h => hfr.trans h) ?_
    clear hfr
    refine wpAnyH_ready (rs := [15]) (by kernel_rfl) (by simp) ?_
    refine AllReadyH.cons (o := ⟨some 74, _, _, _, _, _⟩) rfl (fun K hK => ?_) AllReadyH.nil
    go_simp
    refine (Pw3.out.xrot DK (by omega) at_ off mask HA.out.at1 HA.out.at2 HA.out.off1 HA.out.off2 HA.out.mask).mono ?_; rintro e w5 ⟨rfl, Sw5, hp, hn⟩
    have Pw5 := Lib.hid hp
    have Nw5 := Lib.hid hn
    have hfr := hn.1.mono (fun b hb => (show S b ∨ w1.heap.size ≤ b from (Nw3.out.2 b hb).imp id (fun q => q)))
    clear hp hn
    go_wp2_with fail
    refine hK.out _ _ hfr (fun hHeld => ?_)
    clear hK K hHeld
    try simp only [Act.put, List.setIfInBounds_toArray, List.set_cons_zero, List.set_cons_succ]
    refine wpAnyH_re (S' := fun w' => Fr (fun b => S b ∨ w1.heap.size ≤ b) w5 w') (fun w' h => hfr.trans h) ?_
    clear hfr
    refine wpAnyH_take (i := 16) (oi := ⟨some 75, _, _, _, _, _⟩) (v := (.bool (decide (xd.rotX at_ off (mask : Int) = xr.rotX at_ off (mask : Int))))) rfl (by kernel_rfl) (by kernel_rfl) (by kernel_rfl) (fun _ _ _ h => h) (Or.inl ⟨by rfl, ?yb16⟩) (Fr.refl _ _) ?rb16
    case yb16 =>
      intro wq hSw
      exact step_eqi9 (x := .tmp 66) (y := .tmp 74) rfl rfl rfl rfl
    try simp only [Act.put, List.setIfInBounds_toArray, List.set_cons_zero, List.set_cons_succ]
    refine wpAnyH_take (i := 17) (oi := ⟨some 6, _, _, _, _, _⟩) (v := ?vb17) rfl (by kernel_rfl) (by kernel_rfl) (by kernel_rfl) (fun _ _ _ h => h) (Or.inl ⟨by rfl, ?yb17⟩) (Fr.refl _ _) ?rb17
    case yb17 =>
      intro wq hSw
      (try dsimp only at hSw)
      first | (go_simp; done) | (go_simp; with_reducible rfl)
    try simp only [Act.put, List.setIfInBounds_toArray, List.set_cons_zero, List.set_cons_succ]
    refine wpAnyH_done (by kernel_rfl) ?_ _
    go_wp2_with fail
    go_ret
    exact ⟨_, Sw5, rfl, Pw5.out.mono (by omega), (Nw3.out.below (Below.drew HB1.out)).trans Nw5.out⟩
  by_cases h9 : kind = 9
  · subst h9
    clear q5 Q5
    go_enter Try.func22, Try.ntmps22
    go_wp2_with fail
    rw [← Hw1.out]
    go_wp2_with fail
    refine wp_region_held_drew (S := fun w' => Fr (fun b => S b ∨ w1.heap.size ≤ b) w1.drew w') (by kernel_rfl) (Fr.refl _ _) (fun hHeld => ?_)
    clear hHeld
    refine wpAnyH_take (i := 0) (oi := ⟨some 78, _, _, _, _, _⟩) (v := ?vc0) rfl (by kernel_rfl) (by kernel_rfl) (by kernel_rfl) (fun _ _ _ h => h) (Or.inl ⟨by rfl, ?yc0⟩) (Fr.refl _ _) ?rc0
    case yc0 =>
      intro wq hSw
      (try dsimp only at hSw)
      first | (go_simp; done) | (go_simp; with_reducible rfl)
    try simp only [Act.put, List.setIfInBounds_toArray, List.set_cons_zero, List.set_cons_succ]
    refine wpAnyH_take (i := 1) (oi := ⟨some 79, _, _, _, _, _⟩) (v := ?vc1) rfl (by kernel_rfl) (by kernel_rfl) (by kernel_rfl) (fun _ _ _ h => h) (Or.inl ⟨by rfl, ?yc1⟩) (Fr.refl _ _) ?rc1
    case yc1 =>
      intro wq hSw
      (try dsimp only at hSw)
      first | (go_simp; done) | (go_simp; with_reducible rfl)
    try simp only [Act.put, List.setIfInBounds_toArray, List.set_cons_zero, List.set_cons_succ]
    refine wpAnyH_take (i := 2) (oi := ⟨some 80, _, _, _, _, _⟩) (v := ?vc2) rfl (by kernel_rfl) (by kernel_rfl) (by kernel_rfl) (fun _ _ _ h => h) (Or.inl ⟨by rfl, ?yc2⟩) (Fr.refl _ _) ?rc2
    case yc2 =>
      intro wq hSw
      (try dsimp only at hSw)
      have hq := hSw.cell_some Q1.out NB.out
      first | (go_simp; done) | (go_simp; with_reducible rfl)
    try simp only [Act.put, List.setIfInBounds_toArray, List.set_cons_zero, List.set_cons_succ]
    refine wpAnyH_take (i := 3) (oi := ⟨some 81, _, _, _, _, _⟩) (v := ?vc3) rfl (by kernel_rfl) (by kernel_rfl) (by kernel_rfl) (fun _ _ _ h => h) (Or.inl ⟨by rfl, ?yc3⟩) (Fr.refl _ _) ?rc3
    case yc3 =>
      intro wq hSw
      (try dsimp only at hSw)
      first | (go_simp; done) | (go_simp; with_reducible rfl)
    try simp only [Act.put, List.setIfInBounds_toArray, List.set_cons_zero, List.set_cons_succ]
    refine wpAnyH_take (i := 4) (oi := ⟨some 82, _, _, _, _, _⟩) (v := ?vc4) rfl (by kernel_rfl) (by kernel_rfl) (by kernel_rfl) (fun _ _ _ h => h) (Or.inl ⟨by rfl, ?yc4⟩) (Fr.refl _ _) ?rc4
    case yc4 =>
      intro wq hSw
      (try dsimp only at hSw)
      have hq := hSw.cell_some Q6.out NB.out
      first | (go_simp; done) | (go_simp; with_reducible rfl)
    try simp only [Act.put, List.setIfInBounds_toArray, List.set_cons_zero, List.set_cons_succ]
    refine wpAnyH_take (i := 6) (oi := ⟨some 84, _, _, _, _, _⟩) (v := ?vc6) rfl (by kernel_rfl) (by kernel_rfl) (by kernel_rfl) (fun _ _ _ h => h) (Or.inl ⟨by rfl, ?yc6⟩) (Fr.refl _ _) ?rc6
    case yc6 =>
      intro wq hSw
      (try dsimp only at hSw)
      first | (go_simp; done) | (go_simp; with_reducible rfl)
    try simp only [Act.put, List.setIfInBounds_toArray, List.set_cons_zero, List.set_cons_succ]
    refine wpAnyH_take (i := 7) (oi := ⟨some 85, _, _, _, _, _⟩) (v := ?vc7) rfl (by kernel_rfl) (by kernel_rfl) (by kernel_rfl) (fun _ _ _ h => h) (Or.inl ⟨by rfl, ?yc7⟩) (Fr.refl _ _) ?rc7
    case yc7 =>
      intro wq hSw
      (try dsimp only at hSw)
      first | (go_simp; done) | (go_simp; with_reducible rfl)
    try simp only [Act.put, List.setIfInBounds_toArray, List.set_cons_zero, List.set_cons_succ]
    refine wpAnyH_take (i := 8) (oi := ⟨some 86, _, _, _, _, _⟩) (v := ?vc8) rfl (by kernel_rfl) (by kernel_rfl) (by kernel_rfl) (fun _ _ _ h => h) (Or.inl ⟨by rfl, ?yc8⟩) (Fr.refl _ _) ?rc8
    case yc8 =>
      intro wq hSw
      (try dsimp only at hSw)
      have hq := hSw.cell_some Q1.out NB.out
      first | (go_simp; done) | (go_simp; with_reducible rfl)
    try simp only [Act.put, List.setIfInBounds_toArray, List.set_cons_zero, List.set_cons_succ]
    refine wpAnyH_take (i := 9) (oi := ⟨some 87, _, _, _, _, _⟩) (v := ?vc9) rfl (by kernel_rfl) (by kernel_rfl) (by kernel_rfl) (fun _ _ _ h => h) (Or.inl ⟨by rfl, ?yc9⟩) (Fr.refl _ _) ?rc9
    case yc9 =>
      intro wq hSw
      (try dsimp only at hSw)
      first | (go_simp; done) | (go_simp; with_reducible rfl)
    try simp only [Act.put, List.setIfInBounds_toArray, List.set_cons_zero, List.set_cons_succ]
    refine wpAnyH_take (i := 10) (oi := ⟨some 88, _, _, _, _, _⟩) (v := ?vc10) rfl (by kernel_rfl) (by kernel_rfl) (by kernel_rfl) (fun _ _ _ h => h) (Or.inl ⟨by rfl, ?yc10⟩) (Fr.refl _ _) ?rc10
    case yc10 =>
      intro wq hSw
      (try dsimp only at hSw)
      have hq := hSw.cell_some Q6.out NB.out
      first | (go_simp; done) | (go_simp; with_reducible rfl)
    try simp only [Act.put, List.setIfInBounds_toArray, List.set_cons_zero, List.set_cons_succ]
    refine wpAnyH_ready (rs := [5]) (by kernel_rfl) (by simp) ?_
    refine AllReadyH.cons (o := ⟨some 83, _, _, _, _, _⟩) rfl (fun K hK => ?_) AllReadyH.nil
    go_simp
    refine (P1.out.dwrite DK (by omega) at_ BA b.length bc b HA.out.at1 HA.out.at2 (HA.out.b.below P1.out.bel (Nat.le_refl _))).mono ?_; rintro e w3 ⟨rfl, Sw3, hp, hn⟩
    have Pw3 := Lib.hid hp
    have Nw3 := Lib.hid hn
    have hfr := hn.1.mono (fun b hb => (show S b ∨ w1.heap.size ≤ b from .inl hb))
    clear hp hn
    go_wp2_with fail
    refine hK.out _ _ hfr (fun hHeld => ?_)
    clear hK K hHeld
    try simp only [Act.put, List.setIfInBounds_toArray, List.set_cons_zero, List.set_cons_succ]
    refine wpAnyH_re (S' := fun w' => Fr (fun b => S b ∨ w1.heap.size ≤ b) w3 w') (fun w' h => hfr.trans h) ?_
    clear hfr
    refine wpAnyH_ready (rs := [11]) (by kernel_rfl) (by simp) ?_
    refine AllReadyH.cons (o := ⟨some 89, _, _, _, _, _⟩) rfl (fun K hK => ?_) AllReadyH.nil
    go_simp
    refine (Pw3.out.xwrite DK (by omega) at_ BA b.length bc b HA.out.at1 HA.out.at2 (HA.out.b.below Pw3.out.bel (Nat.le_refl _))).mono ?_; rintro e w5 ⟨rfl, Sw5, hp, hn⟩
    have Pw5 := Lib.hid hp
    have Nw5 := Lib.hid hn
    have hfr := hn.1.mono (fun b hb => (show S b ∨ w1.heap.size ≤ b from (Nw3.out.2 b hb).imp id (fun q => q)))
    clear hp hn
    go_wp2_with fail
    refine hK.out _ _ hfr (fun hHeld => ?_)
    clear hK K hHeld
    try simp only [Act.put, List.setIfInBounds_toArray, List.set_cons_zero, List.set_cons_succ]
    refine wpAnyH_re (S' := fun w' => Fr (fun b => S b ∨ w1.heap.size ≤ b) w5 w') (fun w' h => hfr.trans h) ?_
    clear hfr
    refine wpAnyH_take (i := 12) (oi := ⟨some 90, _, _, _, _, _⟩) (v := (.bool (decide (xd.writeX at_ b = xr.writeX at_ b)))) rfl (by kernel_rfl) (by kernel_rfl) (by kernel_rfl) (fun _ _ _ h => h) (Or.inl ⟨by rfl, ?yc12⟩) (Fr.refl _ _) ?rc12
    case yc12 =>
      intro wq hSw
      exact step_eqi9 (x := .tmp 83) (y := .tmp 89) rfl rfl rfl rfl
    try simp only [Act.put, List.setIfInBounds_toArray, List.set_cons_zero, List.set_cons_succ]
    refine wpAnyH_take (i := 13) (oi := ⟨some 6, _, _, _, _, _⟩) (v := ?vc13) rfl (by kernel_rfl) (by kernel_rfl) (by kernel_rfl) (fun _ _ _ h => h) (Or.inl ⟨by rfl, ?yc13⟩) (Fr.refl _ _) ?rc13
    case yc13 =>
      intro wq hSw
      (try dsimp only at hSw)
      first | (go_simp; done) | (go_simp; with_reducible rfl)
    try simp only [Act.put, List.setIfInBounds_toArray, List.set_cons_zero, List.set_cons_succ]
    refine wpAnyH_done (by kernel_rfl) ?_ _
    go_wp2_with fail
    go_ret
    exact ⟨_, Sw5, rfl, Pw5.out.mono (by omega), (Nw3.out.below (Below.drew HB1.out)).trans Nw5.out⟩
  have k0 : (kind == 0) = false := by simpa using h0
  have k1 : (kind == 1) = false := by simpa using h1
  have k2 : (kind == 2) = false := by simpa using h2
  have k3 : (kind == 3) = false := by simpa using h3
  have k4 : (kind == 4) = false := by simpa using h4
  have k5 : (kind == 5) = false := by simpa using h5
  have k6 : (kind == 6) = false := by simpa using h6
  have k7 : (kind == 7) = false := by simpa using h7
  have k9 : (kind == 9) = false := by simpa using h9
  have ex : ∀ v : Dv, v.act ⟨kind, at_, off, c, mask, ks, KA, kc, b, BA, bc⟩ = v := fun v => by simp [Dv.act, h0, h1, h2, h3, h4, h5, h6, h7, h9]
  have HX := Lib.hid ex
  clear h0 h1 h2 h3 h4 h5 h6 h7 h9 q5 Q5 ex
  go_enter Try.func22, Try.ntmps22
  go_wp2_with fail
  rw [← Hw1.out]
  go_wp2_with fail
  go_ret
  refine ⟨_, S, rfl, ?_, (Nx.refl S w).later HB1.out⟩
  rw [HX.out, HX.out]
  exact P0.out.mono (by omega)
end
end Go.Proofs.Ytmlmlmlbdjhfhaa
