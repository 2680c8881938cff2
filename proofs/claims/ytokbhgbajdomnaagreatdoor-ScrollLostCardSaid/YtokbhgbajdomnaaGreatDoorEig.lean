/-
  Package scroll's Put where nothing is put: too few places, too long a text, no array, no coder, no pool. Conditions: bounds. (Written by gen_eig.py.)
-/
import Derived.Test.YtokbhgbajdomnaaGreatDoorEid
set_option linter.unusedVariables false
set_option maxRecDepth 20000
set_option maxHeartbeats 1600000
namespace Go.Proofs.YtokbhgbajdomnaaGreatDoor
open Go.RowKit Go.Proofs
section
variable {Rep : World → (Nat → Prop) → Nat → Dv → Prop} {w0 w w' : World} {S U : Nat → Prop} {A C k m F T N P : Nat} {xs : List Dv} {p : Ps}
theorem put16_large (DK : DrvK Rep) (h : Lc15 Rep w0 w S A C k m F T N xs U P p) (r : Nat) (hr : 44 * k = r + 10) (A2 : Option Addr) (q c2 n : Nat) (hq : q ≤ 1000000) (hn : countS r q = n) (hZ : 400 < n) (hn2 : n ≤ 1000000) :
  Calls Tryz.prog 14 #[.pointer (some ⟨A, 0, none⟩), .pointer (some ⟨C, 0, none⟩), .pointer (some ⟨P, 0, none⟩), .slice A2 q c2] w fun e w' => e = .returned (.tuple #[.agg #[.int .i64 0, .int .u64 0, .int .i64 0, .int .i64 0], .slice none 0 0, .int .i64 260]) ∧ Lc15 Rep w0 w' S A C k m F T N xs U P p ∧ Fr U w w' := by
 have H := qH h
 clear h
 have HR := qH hr
 have HCT := qH (show cntZ r (q : Int) = n by rw [cntZ_nat]; exact hn)
 clear hr hn
 have hz : (400 : Int) < (n : Int) := by omega
 go_enter_defers Tryz.func14, Tryz.ntmps14
 go_wp2_with fail
 obtain ⟨hxa, hba⟩ := Pb16.new (w := w) (P := P)
 obtain ⟨wa, hwa⟩ : ∃ x, x = ((w.alloc (.cells #[.pointer (some ⟨P, 0, none⟩)] 29)).alloc (.cells #[.int .i64 0, .int .u64 0, .int .i64 0, .int .i64 0] 38)) := ⟨_, rfl⟩
 rw [← hwa] at hxa hba ⊢
 clear hwa
 obtain ⟨Y, hY⟩ : ∃ Y, Y = w.heap.size + 1 := ⟨_, rfl⟩
 rw [← hY] at hxa ⊢
 obtain ⟨X, hX⟩ : ∃ X, X = w.heap.size := ⟨_, rfl⟩
 rw [← hX] at hxa ⊢
 have HX0 := qH (show w.heap.size ≤ X ∧ w.heap.size ≤ Y from by omega)
 have NX := qH (show ¬ U X ∧ ¬ U Y from ⟨fun q => by have := H.out.pl.lt _ q; omega, fun q => by have := H.out.pl.lt _ q; omega⟩)
 have La := qH (H.out.later DK hba)
 have Ba := qH hba
 have Xa := qH hxa
 clear hba hxa hX hY
 have hg0 := gens_any U P p 0 wa La.out.pl
 unfold RetGens14 at hg0
 refine hg0.mono ?_; clear hg0; rintro e w1 (⟨h2, _⟩ | ⟨_, h2, _⟩ | ⟨_, _, rfl, hp, hf⟩)
 ·omega
 ·have := H.out.pl.ok.t2
  omega
 have L1 := qH (La.out.turn DK (show Pl w1 U P p from hp) hf)
 have X1 := qH (Xa.out.fr hf NX.out.1 NX.out.2)
 have F1 := qH ((Fr.of_below (S := U) Ba.out).trans hf)
 clear hp hf La Xa
 have ht1 := there16_yes L1.out.lc.ac
 go_wp2_with fail
 refine ht1.mono ?_; clear ht1; rintro e w2 ⟨rfl, hb⟩
 have L2 := qH (L1.out.later DK hb)
 have X2 := qH (X1.out.later hb)
 have F2 := qH (F1.out.trans (Fr.of_below hb))
 clear hb L1 X1 F1
 have hct := count16 L2.out.lc.ac.c HR.out (q : Int) (by omega) (by omega)
 rw [HCT.out] at hct
 go_wp2_with fail
 refine hct.mono ?_; clear hct; rintro e w3 ⟨rfl, hb⟩
 have L3 := qH (L2.out.later DK hb)
 have X3 := qH (X2.out.later hb)
 have F3 := qH (F2.out.trans (Fr.of_below hb))
 clear hb L2 X2 F2
 have sz := qH (size_sc16 0 0 0 0)
 go_wp2_with (refine at_none ?_; refine wpList_store_row (o := ⟨none, _, _, _, _, _⟩) rfl 38 (.tmp 8) (.tmp 38) rfl Y #[.int .i64 0, .int .u64 0, .int .i64 0, .int .i64 0] rfl rfl 38 _ X3.out.y sz.out rfl one_sc16 ?_)
 refine ⟨_, results_cell_two Tryz.results14 _ _ Y 38 _ (0, 0) _ rfl (setRow_heap _ _ _ _ _ _ X3.out.y) Tryz.underlying38 rfl sz.out, ?_⟩
 refine ⟨rfl, L3.out.box DK (Fr.setRow1 _) (fun x hx => ?_), F3.out.setRow HX0.out.2 _⟩
 have hx : x = Y := hx
 subst hx
 exact ⟨by have := H.out.lc.bel.size; have := HX0.out; omega, H.out.fresh HX0.out.2⟩
theorem put16_few (DK : DrvK Rep) (h : Lc15 Rep w0 w S A C k m F T N xs U P p) (hT : Tz w0) (r : Nat) (hr : 44 * k = r + 10) (A2 : Option Addr) (q c2 n : Nat) (hq : q ≤ 1000000) (hn : countS r q = n) (hn4 : n ≤ 400) (hl : ((leastD p.n p.f (n : Int)).length : Int) < (n : Int)) :
  Calls Tryz.prog 14 #[.pointer (some ⟨A, 0, none⟩), .pointer (some ⟨C, 0, none⟩), .pointer (some ⟨P, 0, none⟩), .slice A2 q c2] w fun e w' => e = .returned (.tuple #[.agg #[.int .i64 0, .int .u64 0, .int .i64 0, .int .i64 0], .slice none 0 0, .int .i64 140]) ∧ Lc15 Rep w0 w' S A C k m F T N xs U P p ∧ Fr U w w' := by
 have H := qH h
 clear h
 have HR := qH hr
 have HCT := qH (show cntZ r (q : Int) = n by rw [cntZ_nat]; exact hn)
 clear hr hn
 have HT := qH hT
 have HL := qH hl
 clear hT hl
 have hz : ¬ (400 : Int) < (n : Int) := by omega
 go_enter_defers Tryz.func14, Tryz.ntmps14
 go_wp2_with fail
 obtain ⟨hxa, hba⟩ := Pb16.new (w := w) (P := P)
 obtain ⟨wa, hwa⟩ : ∃ x, x = ((w.alloc (.cells #[.pointer (some ⟨P, 0, none⟩)] 29)).alloc (.cells #[.int .i64 0, .int .u64 0, .int .i64 0, .int .i64 0] 38)) := ⟨_, rfl⟩
 rw [← hwa] at hxa hba ⊢
 clear hwa
 obtain ⟨Y, hY⟩ : ∃ Y, Y = w.heap.size + 1 := ⟨_, rfl⟩
 rw [← hY] at hxa ⊢
 obtain ⟨X, hX⟩ : ∃ X, X = w.heap.size := ⟨_, rfl⟩
 rw [← hX] at hxa ⊢
 have HX0 := qH (show w.heap.size ≤ X ∧ w.heap.size ≤ Y from by omega)
 have NX := qH (show ¬ U X ∧ ¬ U Y from ⟨fun q => by have := H.out.pl.lt _ q; omega, fun q => by have := H.out.pl.lt _ q; omega⟩)
 have La := qH (H.out.later DK hba)
 have Ba := qH hba
 have Xa := qH hxa
 clear hba hxa hX hY
 have hg0 := gens_any U P p 0 wa La.out.pl
 unfold RetGens14 at hg0
 refine hg0.mono ?_; clear hg0; rintro e w1 (⟨h2, _⟩ | ⟨_, h2, _⟩ | ⟨_, _, rfl, hp, hf⟩)
 ·omega
 ·have := H.out.pl.ok.t2
  omega
 have L1 := qH (La.out.turn DK (show Pl w1 U P p from hp) hf)
 have X1 := qH (Xa.out.fr hf NX.out.1 NX.out.2)
 have F1 := qH ((Fr.of_below (S := U) Ba.out).trans hf)
 clear hp hf La Xa
 have ht1 := there16_yes L1.out.lc.ac
 go_wp2_with fail
 refine ht1.mono ?_; clear ht1; rintro e w2 ⟨rfl, hb⟩
 have L2 := qH (L1.out.later DK hb)
 have X2 := qH (X1.out.later hb)
 have F2 := qH (F1.out.trans (Fr.of_below hb))
 clear hb L1 X1 F1
 have hct := count16 L2.out.lc.ac.c HR.out (q : Int) (by omega) (by omega)
 rw [HCT.out] at hct
 go_wp2_with fail
 refine hct.mono ?_; clear hct; rintro e w3 ⟨rfl, hb⟩
 have L3 := qH (L2.out.later DK hb)
 have X3 := qH (X2.out.later hb)
 have F3 := qH (F2.out.trans (Fr.of_below hb))
 clear hb L2 X2 F2
 have c0 := X3.out.x.c0
 go_wp2_with fail
 have hta := take_any U P p (n : Int) (by omega) (by omega) w3 L3.out.pl (L3.out.tz HT.out)
 unfold RetTake at hta
 refine hta.mono ?_; clear hta c0; rintro e w4 (⟨_, rfl, hb⟩ | ⟨h1, _⟩)
 rotate_left
 ·have := HL.out; omega
 have L4 := qH (L3.out.later DK hb)
 have X4 := qH (X3.out.later hb)
 have F4 := qH (F3.out.trans (Fr.of_below hb))
 clear hb L3 X3 F3
 have hbv : Below w4.heap.size w4 (w4.alloc (.cells #[.slice none 0 0] 39)) := (Below.refl _ _).alloc (Nat.le_refl _) _
 have X5 := qH (X4.out.later hbv)
 have L5 := qH (L4.out.later DK hbv)
 have F5 := qH (F4.out.trans (Fr.of_below hbv))
 clear hbv
 have sz := qH (size_sc16 0 0 0 0)
 go_wp2_with (refine at_none ?_; refine wpList_store_row (o := ⟨none, _, _, _, _, _⟩) rfl 38 (.tmp 8) (.tmp 47) rfl Y #[.int .i64 0, .int .u64 0, .int .i64 0, .int .i64 0] rfl rfl 38 _ X5.out.y sz.out rfl one_sc16 ?_)
 refine ⟨_, results_cell_two Tryz.results14 _ _ Y 38 _ (0, 0) _ rfl (setRow_heap _ _ _ _ _ _ X5.out.y) Tryz.underlying38 rfl sz.out, ?_⟩
 refine ⟨rfl, L5.out.box DK (Fr.setRow1 _) (fun x hx => ?_), F5.out.setRow HX0.out.2 _⟩
 have hx : x = Y := hx
 subst hx
 exact ⟨by have := H.out.lc.bel.size; have := HX0.out; omega, H.out.fresh HX0.out.2⟩
theorem put16_noA (DK : DrvK Rep) (h : Lc15 Rep w0 w S A C k m F T N xs U P p) (v : Value) (A2 : Option Addr) (q c2 : Nat) :
  Calls Tryz.prog 14 #[.pointer none, v, .pointer (some ⟨P, 0, none⟩), .slice A2 q c2] w fun e w' => e = .returned (.tuple #[.agg #[.int .i64 0, .int .u64 0, .int .i64 0, .int .i64 0], .slice none 0 0, .int .i64 1]) ∧ Lc15 Rep w0 w' S A C k m F T N xs U P p ∧ Fr U w w' := by
 have H := qH h
 clear h
 go_enter_defers Tryz.func14, Tryz.ntmps14
 go_wp2_with fail
 obtain ⟨hxa, hba⟩ := Pb16.new (w := w) (P := P)
 obtain ⟨wa, hwa⟩ : ∃ x, x = ((w.alloc (.cells #[.pointer (some ⟨P, 0, none⟩)] 29)).alloc (.cells #[.int .i64 0, .int .u64 0, .int .i64 0, .int .i64 0] 38)) := ⟨_, rfl⟩
 rw [← hwa] at hxa hba ⊢
 clear hwa
 obtain ⟨Y, hY⟩ : ∃ Y, Y = w.heap.size + 1 := ⟨_, rfl⟩
 rw [← hY] at hxa ⊢
 obtain ⟨X, hX⟩ : ∃ X, X = w.heap.size := ⟨_, rfl⟩
 rw [← hX] at hxa ⊢
 have HX0 := qH (show w.heap.size ≤ X ∧ w.heap.size ≤ Y from by omega)
 have NX := qH (show ¬ U X ∧ ¬ U Y from ⟨fun q => by have := H.out.pl.lt _ q; omega, fun q => by have := H.out.pl.lt _ q; omega⟩)
 have La := qH (H.out.later DK hba)
 have Ba := qH hba
 have Xa := qH hxa
 clear hba hxa hX hY
 have hg0 := gens_any U P p 0 wa La.out.pl
 unfold RetGens14 at hg0
 refine hg0.mono ?_; clear hg0; rintro e w1 (⟨h2, _⟩ | ⟨_, h2, _⟩ | ⟨_, _, rfl, hp, hf⟩)
 ·omega
 ·have := H.out.pl.ok.t2
  omega
 have L1 := qH (La.out.turn DK (show Pl w1 U P p from hp) hf)
 have X1 := qH (Xa.out.fr hf NX.out.1 NX.out.2)
 have F1 := qH ((Fr.of_below (S := U) Ba.out).trans hf)
 clear hp hf La Xa
 have ht1 := there16_noA v w1
 go_wp2_with fail
 refine ht1.mono ?_; clear ht1; rintro e w2 ⟨rfl, hw⟩
 obtain rfl : w1 = w2 := hw.symm
 have sz := qH (size_sc16 0 0 0 0)
 go_wp2_with (refine at_none ?_; refine wpList_store_row (o := ⟨none, _, _, _, _, _⟩) rfl 38 (.tmp 8) (.tmp 31) rfl Y #[.int .i64 0, .int .u64 0, .int .i64 0, .int .i64 0] rfl rfl 38 _ X1.out.y sz.out rfl one_sc16 ?_)
 refine ⟨_, results_cell_two Tryz.results14 _ _ Y 38 _ (0, 0) _ rfl (setRow_heap _ _ _ _ _ _ X1.out.y) Tryz.underlying38 rfl sz.out, ?_⟩
 refine ⟨rfl, L1.out.box DK (Fr.setRow1 _) (fun x hx => ?_), F1.out.setRow HX0.out.2 _⟩
 have hx : x = Y := hx
 subst hx
 exact ⟨by have := H.out.lc.bel.size; have := HX0.out; omega, H.out.fresh HX0.out.2⟩
theorem put16_noC (DK : DrvK Rep) (h : Lc15 Rep w0 w S A C k m F T N xs U P p) (A2 : Option Addr) (q c2 : Nat) :
  Calls Tryz.prog 14 #[.pointer (some ⟨A, 0, none⟩), .pointer none, .pointer (some ⟨P, 0, none⟩), .slice A2 q c2] w fun e w' => e = .returned (.tuple #[.agg #[.int .i64 0, .int .u64 0, .int .i64 0, .int .i64 0], .slice none 0 0, .int .i64 1]) ∧ Lc15 Rep w0 w' S A C k m F T N xs U P p ∧ Fr U w w' := by
 have H := qH h
 clear h
 go_enter_defers Tryz.func14, Tryz.ntmps14
 go_wp2_with fail
 obtain ⟨hxa, hba⟩ := Pb16.new (w := w) (P := P)
 obtain ⟨wa, hwa⟩ : ∃ x, x = ((w.alloc (.cells #[.pointer (some ⟨P, 0, none⟩)] 29)).alloc (.cells #[.int .i64 0, .int .u64 0, .int .i64 0, .int .i64 0] 38)) := ⟨_, rfl⟩
 rw [← hwa] at hxa hba ⊢
 clear hwa
 obtain ⟨Y, hY⟩ : ∃ Y, Y = w.heap.size + 1 := ⟨_, rfl⟩
 rw [← hY] at hxa ⊢
 obtain ⟨X, hX⟩ : ∃ X, X = w.heap.size := ⟨_, rfl⟩
 rw [← hX] at hxa ⊢
 have HX0 := qH (show w.heap.size ≤ X ∧ w.heap.size ≤ Y from by omega)
 have NX := qH (show ¬ U X ∧ ¬ U Y from ⟨fun q => by have := H.out.pl.lt _ q; omega, fun q => by have := H.out.pl.lt _ q; omega⟩)
 have La := qH (H.out.later DK hba)
 have Ba := qH hba
 have Xa := qH hxa
 clear hba hxa hX hY
 have hg0 := gens_any U P p 0 wa La.out.pl
 unfold RetGens14 at hg0
 refine hg0.mono ?_; clear hg0; rintro e w1 (⟨h2, _⟩ | ⟨_, h2, _⟩ | ⟨_, _, rfl, hp, hf⟩)
 ·omega
 ·have := H.out.pl.ok.t2
  omega
 have L1 := qH (La.out.turn DK (show Pl w1 U P p from hp) hf)
 have X1 := qH (Xa.out.fr hf NX.out.1 NX.out.2)
 have F1 := qH ((Fr.of_below (S := U) Ba.out).trans hf)
 clear hp hf La Xa
 have ht1 := there16_noC L1.out.lc.ac.a (by rw [L1.out.lc.ac.len]; have := L1.out.lc.ac.c.k1; omega)
 go_wp2_with fail
 refine ht1.mono ?_; clear ht1; rintro e w2 ⟨rfl, hw⟩
 obtain rfl : w1 = w2 := hw.symm
 have sz := qH (size_sc16 0 0 0 0)
 go_wp2_with (refine at_none ?_; refine wpList_store_row (o := ⟨none, _, _, _, _, _⟩) rfl 38 (.tmp 8) (.tmp 31) rfl Y #[.int .i64 0, .int .u64 0, .int .i64 0, .int .i64 0] rfl rfl 38 _ X1.out.y sz.out rfl one_sc16 ?_)
 refine ⟨_, results_cell_two Tryz.results14 _ _ Y 38 _ (0, 0) _ rfl (setRow_heap _ _ _ _ _ _ X1.out.y) Tryz.underlying38 rfl sz.out, ?_⟩
 refine ⟨rfl, L1.out.box DK (Fr.setRow1 _) (fun x hx => ?_), F1.out.setRow HX0.out.2 _⟩
 have hx : x = Y := hx
 subst hx
 exact ⟨by have := H.out.lc.bel.size; have := HX0.out; omega, H.out.fresh HX0.out.2⟩
theorem put16_noP (v1 v2 : Value) (A2 : Option Addr) (q c2 : Nat) (w : World) :
  Calls Tryz.prog 14 #[v1, v2, .pointer none, .slice A2 q c2] w fun e w' => e = .returned (.tuple #[.agg #[.int .i64 0, .int .u64 0, .int .i64 0, .int .i64 0], .slice none 0 0, .int .i64 1]) ∧ Below w.heap.size w w' := by
 have e1 : (w.alloc (.cells #[.pointer none] 29)).heap.size = w.heap.size + 1 := by simp
 have hb1 : Below w.heap.size w (w.alloc (.cells #[.pointer none] 29)) := (Below.refl _ _).alloc (Nat.le_refl _) _
 have hb : Below w.heap.size w ((w.alloc (.cells #[.pointer none] 29)).alloc (.cells #[.int .i64 0, .int .u64 0, .int .i64 0, .int .i64 0] 38)) := hb1.alloc (by omega) _
 have hy : Sc16 ((w.alloc (.cells #[.pointer none] 29)).alloc (.cells #[.int .i64 0, .int .u64 0, .int .i64 0, .int .i64 0] 38)) (w.heap.size + 1) 0 0 0 0 := by
  have := Sc16.new (w := w.alloc (.cells #[.pointer none] 29)) (a := 0) (g := 0) (c := 0) (z := 0)
  rwa [e1] at this
 have HB := qH hb
 have HY := qH hy
 clear e1 hb1 hb hy
 go_enter_defers Tryz.func14, Tryz.ntmps14
 go_wp2_with fail
 obtain ⟨wa, hwa⟩ : ∃ x, x = ((w.alloc (.cells #[.pointer none] 29)).alloc (.cells #[.int .i64 0, .int .u64 0, .int .i64 0, .int .i64 0] 38)) := ⟨_, rfl⟩
 rw [← hwa] at HB HY ⊢
 clear hwa
 obtain ⟨Y, hY⟩ : ∃ Y, Y = w.heap.size + 1 := ⟨_, rfl⟩
 rw [← hY] at HY ⊢
 have HY0 := qH (show w.heap.size ≤ Y from by omega)
 clear hY
 refine (gens_no (.pointer none) 0 wa (.inl rfl)).mono ?_; rintro e w1 ⟨rfl, hw⟩
 obtain rfl : wa = w1 := hw.symm
 have sz := qH (size_sc16 0 0 0 0)
 go_wp2_with (refine at_none ?_; refine wpList_store_row (o := ⟨none, _, _, _, _, _⟩) rfl 38 (.tmp 8) (.tmp 31) rfl Y #[.int .i64 0, .int .u64 0, .int .i64 0, .int .i64 0] rfl rfl 38 _ HY.out sz.out rfl one_sc16 ?_)
 refine ⟨_, results_cell_two Tryz.results14 _ _ Y 38 _ (0, 0) _ rfl (setRow_heap _ _ _ _ _ _ HY.out) Tryz.underlying38 rfl sz.out, ?_⟩
 exact ⟨rfl, below_setRow HB.out HY0.out _⟩
end
end Go.Proofs.YtokbhgbajdomnaaGreatDoor
