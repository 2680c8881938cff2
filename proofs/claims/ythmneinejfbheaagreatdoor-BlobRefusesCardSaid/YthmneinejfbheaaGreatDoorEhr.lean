/-
  Package blob's Put where nothing is put: too long a value, no array, no coder or no pool. Conditions: bounds. (Written by gen_ehh.py.)
-/
import Derived.Test.YthmneinejfbheaaGreatDoorEhf
set_option linter.unusedVariables false
set_option maxRecDepth 20000
set_option maxHeartbeats 1600000
namespace Go.Proofs.YthmneinejfbheaaGreatDoor
open Go.RowKit Go.Proofs
section
variable {Rep : World → (Nat → Prop) → Nat → Dv → Prop} {w0 w w' : World} {S U : Nat → Prop} {A C k m F T N P : Nat} {xs : List Dv} {p : Ps}
theorem put15_large (DK : DrvK Rep) (h : Lc15 Rep w0 w S A C k m F T N xs U P p) (A2 : Option Addr) (q c2 : Nat) (hZ : 400 < q) :
  Calls Tryz.prog 19 #[.pointer (some ⟨A, 0, none⟩), .pointer (some ⟨C, 0, none⟩), .pointer (some ⟨P, 0, none⟩), .slice A2 q c2] w fun e w' => e = .returned (.tuple #[.agg #[.slice none 0 0, .int .u64 0, .int .i64 0], .int .i64 260]) ∧ Lc15 Rep w0 w' S A C k m F T N xs U P p ∧ Fr U w w' := by
 have H := qH h
 clear h
 have hz : (400 : Int) < (q : Int) := by omega
 go_enter Tryz.func19, Tryz.ntmps19
 go_wp2_with fail
 have hba : Below w.heap.size w (w.alloc (.cells #[.slice none 0 0, .int .u64 0, .int .i64 0] 25)) := (Below.refl _ _).alloc (Nat.le_refl _) _
 have hxa := zero_bl3 (w := w)
 obtain ⟨wa, hwa⟩ : ∃ x, x = w.alloc (.cells #[.slice none 0 0, .int .u64 0, .int .i64 0] 25) := ⟨_, rfl⟩
 rw [← hwa] at hba hxa ⊢
 clear hwa
 obtain ⟨B, hB⟩ : ∃ B, B = w.heap.size := ⟨_, rfl⟩
 rw [← hB] at hxa ⊢
 have HB := qH hB
 have sz := qH (size_bl3 (A := none) (n := 0) (c := 0) (g := 0) (z := 0))
 have FB := qH (H.out.fresh (b := B) (by omega))
 have La := qH (H.out.later DK hba)
 have Ba := qH hba
 have Xa := qH hxa
 have hg0 := gens_any U P p 0 wa La.out.pl
 unfold RetGens14 at hg0
 clear hba hxa hB
 refine hg0.mono ?_; clear hg0; rintro e w1 (⟨h2, _⟩ | ⟨_, h2, _⟩ | ⟨_, _, rfl, hp, hf⟩)
 ·omega
 ·have := H.out.pl.ok.t2
  omega
 have L1 := qH (La.out.turn DK (show Pl w1 U P p from hp) hf)
 have X1 := qH (show Bl3 w1 B none 0 0 0 0 from hf.row_some Xa.out FB.out.2.1)
 have F1 := qH ((Fr.of_below (S := U) Ba.out).trans hf)
 clear hp hf La Xa
 have ht1 := there_yes L1.out.lc.ac
 go_wp2_with fail
 refine ht1.mono ?_; clear ht1; rintro e w2 ⟨rfl, hb⟩
 have L2 := qH (L1.out.later DK hb)
 have X2 := qH (X1.out.later hb)
 have F2 := qH (F1.out.trans (Fr.of_below hb))
 clear hb L1 X1 F1
 go_wp2_with (refine at_none ?_; refine wpList_store_row (o := ⟨none, _, _, _, _, _⟩) rfl 25 (.tmp 8) (.tmp 37) rfl B #[.slice none 0 0, .int .u64 0, .int .i64 0] rfl rfl 25 _ X2.out sz.out rfl one_bl3 ?_)
 refine bodyPost_ret (results_cell_pair Tryz.results19 _ _ B 25 _ (0, 0) _ rfl (setRow_heap _ _ _ _ _ _ X2.out) Tryz.underlying25 rfl sz.out) rfl ?_
 refine ⟨rfl, L2.out.box DK (Fr.setRow1 _) (fun x hx => ?_), F2.out.setRow (by have := HB.out; omega) _⟩
 have hx : x = B := hx
 subst hx
 exact ⟨by have := H.out.lc.bel.size; have := HB.out; omega, FB.out⟩
theorem put15_noA (DK : DrvK Rep) (h : Lc15 Rep w0 w S A C k m F T N xs U P p) (v : Value) (A2 : Option Addr) (q c2 : Nat) :
  Calls Tryz.prog 19 #[.pointer none, v, .pointer (some ⟨P, 0, none⟩), .slice A2 q c2] w fun e w' => e = .returned (.tuple #[.agg #[.slice none 0 0, .int .u64 0, .int .i64 0], .int .i64 1]) ∧ Lc15 Rep w0 w' S A C k m F T N xs U P p ∧ Fr U w w' := by
 have H := qH h
 clear h
 go_enter Tryz.func19, Tryz.ntmps19
 go_wp2_with fail
 have hba : Below w.heap.size w (w.alloc (.cells #[.slice none 0 0, .int .u64 0, .int .i64 0] 25)) := (Below.refl _ _).alloc (Nat.le_refl _) _
 have hxa := zero_bl3 (w := w)
 obtain ⟨wa, hwa⟩ : ∃ x, x = w.alloc (.cells #[.slice none 0 0, .int .u64 0, .int .i64 0] 25) := ⟨_, rfl⟩
 rw [← hwa] at hba hxa ⊢
 clear hwa
 obtain ⟨B, hB⟩ : ∃ B, B = w.heap.size := ⟨_, rfl⟩
 rw [← hB] at hxa ⊢
 have HB := qH hB
 have sz := qH (size_bl3 (A := none) (n := 0) (c := 0) (g := 0) (z := 0))
 have FB := qH (H.out.fresh (b := B) (by omega))
 have La := qH (H.out.later DK hba)
 have Ba := qH hba
 have Xa := qH hxa
 have hg0 := gens_any U P p 0 wa La.out.pl
 unfold RetGens14 at hg0
 clear hba hxa hB
 refine hg0.mono ?_; clear hg0; rintro e w1 (⟨h2, _⟩ | ⟨_, h2, _⟩ | ⟨_, _, rfl, hp, hf⟩)
 ·omega
 ·have := H.out.pl.ok.t2
  omega
 have L1 := qH (La.out.turn DK (show Pl w1 U P p from hp) hf)
 have X1 := qH (show Bl3 w1 B none 0 0 0 0 from hf.row_some Xa.out FB.out.2.1)
 have F1 := qH ((Fr.of_below (S := U) Ba.out).trans hf)
 clear hp hf La Xa
 have ht1 := there_noA v w1
 go_wp2_with fail
 refine ht1.mono ?_; clear ht1; rintro e w2 ⟨rfl, hw⟩
 obtain rfl : w1 = w2 := hw.symm
 go_wp2_with (refine at_none ?_; refine wpList_store_row (o := ⟨none, _, _, _, _, _⟩) rfl 25 (.tmp 8) (.tmp 33) rfl B #[.slice none 0 0, .int .u64 0, .int .i64 0] rfl rfl 25 _ X1.out sz.out rfl one_bl3 ?_)
 refine bodyPost_ret (results_cell_pair Tryz.results19 _ _ B 25 _ (0, 0) _ rfl (setRow_heap _ _ _ _ _ _ X1.out) Tryz.underlying25 rfl sz.out) rfl ?_
 refine ⟨rfl, L1.out.box DK (Fr.setRow1 _) (fun x hx => ?_), F1.out.setRow (by have := HB.out; omega) _⟩
 have hx : x = B := hx
 subst hx
 exact ⟨by have := H.out.lc.bel.size; have := HB.out; omega, FB.out⟩
theorem put15_noC (DK : DrvK Rep) (h : Lc15 Rep w0 w S A C k m F T N xs U P p) (A2 : Option Addr) (q c2 : Nat) :
  Calls Tryz.prog 19 #[.pointer (some ⟨A, 0, none⟩), .pointer none, .pointer (some ⟨P, 0, none⟩), .slice A2 q c2] w fun e w' => e = .returned (.tuple #[.agg #[.slice none 0 0, .int .u64 0, .int .i64 0], .int .i64 1]) ∧ Lc15 Rep w0 w' S A C k m F T N xs U P p ∧ Fr U w w' := by
 have H := qH h
 clear h
 go_enter Tryz.func19, Tryz.ntmps19
 go_wp2_with fail
 have hba : Below w.heap.size w (w.alloc (.cells #[.slice none 0 0, .int .u64 0, .int .i64 0] 25)) := (Below.refl _ _).alloc (Nat.le_refl _) _
 have hxa := zero_bl3 (w := w)
 obtain ⟨wa, hwa⟩ : ∃ x, x = w.alloc (.cells #[.slice none 0 0, .int .u64 0, .int .i64 0] 25) := ⟨_, rfl⟩
 rw [← hwa] at hba hxa ⊢
 clear hwa
 obtain ⟨B, hB⟩ : ∃ B, B = w.heap.size := ⟨_, rfl⟩
 rw [← hB] at hxa ⊢
 have HB := qH hB
 have sz := qH (size_bl3 (A := none) (n := 0) (c := 0) (g := 0) (z := 0))
 have FB := qH (H.out.fresh (b := B) (by omega))
 have La := qH (H.out.later DK hba)
 have Ba := qH hba
 have Xa := qH hxa
 have hg0 := gens_any U P p 0 wa La.out.pl
 unfold RetGens14 at hg0
 clear hba hxa hB
 refine hg0.mono ?_; clear hg0; rintro e w1 (⟨h2, _⟩ | ⟨_, h2, _⟩ | ⟨_, _, rfl, hp, hf⟩)
 ·omega
 ·have := H.out.pl.ok.t2
  omega
 have L1 := qH (La.out.turn DK (show Pl w1 U P p from hp) hf)
 have X1 := qH (show Bl3 w1 B none 0 0 0 0 from hf.row_some Xa.out FB.out.2.1)
 have F1 := qH ((Fr.of_below (S := U) Ba.out).trans hf)
 clear hp hf La Xa
 have ht1 := there_noC L1.out.lc.ac.a (by rw [L1.out.lc.ac.len]; have := L1.out.lc.ac.c.k1; omega)
 go_wp2_with fail
 refine ht1.mono ?_; clear ht1; rintro e w2 ⟨rfl, hw⟩
 obtain rfl : w1 = w2 := hw.symm
 go_wp2_with (refine at_none ?_; refine wpList_store_row (o := ⟨none, _, _, _, _, _⟩) rfl 25 (.tmp 8) (.tmp 33) rfl B #[.slice none 0 0, .int .u64 0, .int .i64 0] rfl rfl 25 _ X1.out sz.out rfl one_bl3 ?_)
 refine bodyPost_ret (results_cell_pair Tryz.results19 _ _ B 25 _ (0, 0) _ rfl (setRow_heap _ _ _ _ _ _ X1.out) Tryz.underlying25 rfl sz.out) rfl ?_
 refine ⟨rfl, L1.out.box DK (Fr.setRow1 _) (fun x hx => ?_), F1.out.setRow (by have := HB.out; omega) _⟩
 have hx : x = B := hx
 subst hx
 exact ⟨by have := H.out.lc.bel.size; have := HB.out; omega, FB.out⟩
theorem put15_noP (v1 v2 : Value) (A2 : Option Addr) (q c2 : Nat) (w : World) :
  Calls Tryz.prog 19 #[v1, v2, .pointer none, .slice A2 q c2] w fun e w' => e = .returned (.tuple #[.agg #[.slice none 0 0, .int .u64 0, .int .i64 0], .int .i64 1]) ∧ Below w.heap.size w w' := by
 go_enter Tryz.func19, Tryz.ntmps19
 go_wp2_with fail
 have hba : Below w.heap.size w (w.alloc (.cells #[.slice none 0 0, .int .u64 0, .int .i64 0] 25)) := (Below.refl _ _).alloc (Nat.le_refl _) _
 have hxa := zero_bl3 (w := w)
 obtain ⟨wa, hwa⟩ : ∃ x, x = w.alloc (.cells #[.slice none 0 0, .int .u64 0, .int .i64 0] 25) := ⟨_, rfl⟩
 rw [← hwa] at hba hxa ⊢
 clear hwa
 obtain ⟨B, hB⟩ : ∃ B, B = w.heap.size := ⟨_, rfl⟩
 rw [← hB] at hxa ⊢
 have HB := qH hB
 have sz := qH (size_bl3 (A := none) (n := 0) (c := 0) (g := 0) (z := 0))
 have Ba := qH hba
 have Xa := qH hxa
 clear hba hxa hB
 have hg0 := gens_no (.pointer none) 0 wa (.inl rfl)
 refine hg0.mono ?_; clear hg0; rintro e w2 ⟨rfl, hw⟩
 obtain rfl : wa = w2 := hw.symm
 go_wp2_with (refine at_none ?_; refine wpList_store_row (o := ⟨none, _, _, _, _, _⟩) rfl 25 (.tmp 8) (.tmp 33) rfl B #[.slice none 0 0, .int .u64 0, .int .i64 0] rfl rfl 25 _ Xa.out sz.out rfl one_bl3 ?_)
 refine bodyPost_ret (results_cell_pair Tryz.results19 _ _ B 25 _ (0, 0) _ rfl (setRow_heap _ _ _ _ _ _ Xa.out) Tryz.underlying25 rfl sz.out) rfl ?_
 exact ⟨rfl, below_setRow Ba.out (by have := HB.out; omega) _⟩
end
end Go.Proofs.YthmneinejfbheaaGreatDoor
