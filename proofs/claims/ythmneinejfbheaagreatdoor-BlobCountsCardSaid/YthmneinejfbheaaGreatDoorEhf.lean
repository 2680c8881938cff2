/-
  An array, a coder and a pool within a law's call ('Lc15'); package blob's take. Conditions: bounds; the table of bits reads as the row lists it ('Tz').
-/
import Derived.Test.YthmneinejfbheaaGreatDoorEhd
import Derived.Test.YthmneinejfbheaaGreatDoorEhe
import Derived.Test.YthmneinejfbheaaGreatDoorEgc
set_option linter.unusedVariables false
set_option maxRecDepth 20000
set_option maxHeartbeats 1600000
namespace Go.Proofs.YthmneinejfbheaaGreatDoor
open Go.RowKit Go.Proofs
structure Lc15 (Rep : World → (Nat → Prop) → Nat → Dv → Prop) (w0 w : World) (S : Nat → Prop) (A C k m F T N : Nat) (xs : List Dv) (U : Nat → Prop) (P : Nat) (p : Ps) : Prop where
 lc : Lc13 Rep w0 w S A C k m F T N xs
 pl : Pl w U P p
 ulo : ∀ b, U b → w0.heap.size ≤ b
 us : ∀ b, U b → ¬ S b
 uc : ∀ b, U b → b ≠ C ∧ b ≠ F ∧ b ≠ T
 un : ¬ U 1
section
variable {Rep : World → (Nat → Prop) → Nat → Dv → Prop} {w0 w w' : World} {S U : Nat → Prop} {A C k m F T N P : Nat} {xs ys : List Dv} {p q : Ps}
theorem Lc15.later (DK : DrvK Rep) (h : Lc15 Rep w0 w S A C k m F T N xs U P p) (hb : Below w.heap.size w w') : Lc15 Rep w0 w' S A C k m F T N xs U P p := ⟨h.lc.later DK hb, h.pl.later hb, h.ulo, h.us, h.uc, h.un⟩
theorem Lc15.turn (DK : DrvK Rep) (h : Lc15 Rep w0 w S A C k m F T N xs U P p) (hp : Pl w' U P q) (hf : Fr U w w') : Lc15 Rep w0 w' S A C k m F T N xs U P q :=
 ⟨⟨⟨h.lc.ac.a.fr DK.lay hf fun b hb hu => h.us b hu hb, h.lc.ac.c.fr hf (fun q => (h.uc _ q).1 rfl) (fun q => (h.uc _ q).2.1 rfl) (fun q => (h.uc _ q).2.2 rfl), h.lc.ac.ap, h.lc.ac.len, h.lc.ac.n, h.lc.ac.wl, h.lc.ac.nt.fr13 hf h.un, h.lc.ac.ng⟩, h.lc.lo, h.lc.bel.trans (hf.below h.lc.bel.size h.ulo)⟩, hp, h.ulo, h.us, h.uc, h.un⟩
theorem Lc15.mut (h : Lc15 Rep w0 w S A C k m F T N xs U P p) (hm : MutA Rep S A ys w w') (hl : ys.length = xs.length) (hn : ∀ (d : Nat) (x : Dv), ys[d]? = some x → x.Ok ∧ x.n = N) (hw : Wl 1000 ys) : ∃ S', Lc15 Rep w0 w' S' A C k m F T N ys U P p ∧ Nxt S S' w w' := by
 obtain ⟨S', h1, h2⟩ := h.lc.mut hm hl hn hw
 exact ⟨S', ⟨h1, h.pl.fr h2.1 h.us, h.ulo, fun b hb hs => (h2.2 b hs).elim (h.us b hb) (fun q => by have := h.pl.lt b hb; omega), h.uc, h.un⟩, h2⟩
theorem Lc15.tz (h : Lc15 Rep w0 w S A C k m F T N xs U P p) (hT : Tz w0) : Tz w := hT.keep h.lc.bel
theorem Lc15.made {k m f c : Nat} {e : Ending} (h : RetMade15 Rep k m f c w e w') (hb : Below w0.heap.size w0 w) (hN : Nt w) : ∃ A S C F T U P, e = .returned (.tuple #[.pointer (some ⟨A, 0, none⟩), .pointer (some ⟨C, 0, none⟩), .pointer (some ⟨P, 0, none⟩)]) ∧ Lc15 Rep w0 w' S A C k m F T (f + c) (List.replicate (k + m) (Dv.new (f + c))) U P (newP f c) ∧ Below w.heap.size w w' ∧ ∀ b, S b ∨ U b → w.heap.size ≤ b := by
 obtain ⟨A, S, C, F, T, U, P, he, ha, hc, hbel, hS, h1, h2, h3, hp, hU⟩ := h
 obtain ⟨A', S', C', F', T', he', hL, hSl, _⟩ := Lc13.made (e := .returned (.tuple #[.pointer (some ⟨A, 0, none⟩), .pointer (some ⟨C, 0, none⟩)])) ⟨A, S, C, F, T, rfl, ha, hc, hbel, hS, h1, h2, h3⟩ hb hN
 refine ⟨A, S, C, F, T, U, P, he, ⟨?_, hp, fun b hu => by have := (hU b hu).1; have := hb.size; omega, fun b hu => (hU b hu).2.1, fun b hu => (hU b hu).2.2, fun hu => by have := (hU _ hu).1; have := hN.lt13; omega⟩, hbel, fun b hb' => hb'.elim (fun q => (hS b q).1) (fun q => (hU b q).1)⟩
 refine ⟨⟨ha, hc, ⟨fun q => ?_, fun q => ?_, fun q => ?_⟩, List.length_replicate .., fun d x hx => ?_, fun d x hx => ?_, hN.keep hbel, fun q => ?_⟩, fun b hb' => ?_, hb.trans (hbel.mono hb.size)⟩
 ·have := (hS _ q).2.1; omega
 ·have := (hS _ q).2.2.1; omega
 ·have := (hS _ q).2.2.2; omega
 ·rw [List.getElem?_replicate] at hx
  split at hx
  ·injection hx with hx; rw [← hx]; exact ⟨Dv.new_ok _, Dv.new_n _⟩
  ·cases hx
 ·rw [Idle.new d x hx]; exact Nat.zero_le _
 ·have := (hS _ q).1; have := hN.lt13; omega
 ·have := (hS b hb').1; have := hb.size; omega
theorem bl_below (w : World) (AV : Option Addr) (q cV : Nat) (g z : Int) : Below w.heap.size w (w.alloc (.cells #[.slice AV q cV, .int .u64 g, .int .i64 z] 25)) := (Below.refl _ _).alloc (Nat.le_refl _) _
theorem zero_bl3 : Bl3 (w.alloc (.cells #[.slice none 0 0, .int .u64 0, .int .i64 0] 25)) w.heap.size none 0 0 0 0 := Bl3.new
theorem one_bl3 {A : Option Addr} {n c : Nat} {g z : Int} : (#[Value.slice A n c, .int .u64 g, .int .i64 z] : Array Value).all (·.oneCell') = true := all_oneCell_toArray (cs := [.slice A n c, .int .u64 g, .int .i64 z]) (fun v hv => by
 simp at hv
 rcases hv with rfl | rfl | rfl <;> rfl)
theorem range_fr15 {w w' : World} {V : Nat → Prop} {b o : Nat} {cs : List Value} (h : w.rangeAt b o cs) (hf : Fr V w w') (hb : ¬ V b) : w'.rangeAt b o cs := fun j v hv => hf.cell_some (h j v hv) hb
theorem Fr.setRow1 {w : World} {B : Nat} (cs : Array Value) : Fr (fun b => b = B) w (w.setRow B cs) := ⟨rfl, rfl, rfl, by simp, fun k hk hn => setRow_other _ _ _ _ (fun e => hn e)⟩
theorem Lc15.fresh (h : Lc15 Rep w0 w S A C k m F T N xs U P p) {b : Nat} (hb : w.heap.size ≤ b) : ¬ S b ∧ ¬ U b ∧ b ≠ C ∧ b ≠ F ∧ b ≠ T ∧ b ≠ 1 := by
 have h1 := block_lt h.lc.ac.c.row
 have h2 : F < w.heap.size := World.block_lt_of_cell? w _ h.lc.ac.c.fld.cell
 have h3 := h.lc.ac.c.fld.fld.ltT
 have h4 := h.lc.ac.nt.lt13
 exact ⟨fun q => by have := h.lc.ac.a.old q; omega, fun q => by have := h.pl.lt b q; omega, by omega, by omega, by omega, by omega⟩
theorem Lc15.box (DK : DrvK Rep) {V : Nat → Prop} (h : Lc15 Rep w0 w S A C k m F T N xs U P p) (hf : Fr V w w') (hV : ∀ b, V b → w0.heap.size ≤ b ∧ ¬ S b ∧ ¬ U b ∧ b ≠ C ∧ b ≠ F ∧ b ≠ T ∧ b ≠ 1) : Lc15 Rep w0 w' S A C k m F T N xs U P p :=
 ⟨⟨⟨h.lc.ac.a.fr DK.lay hf fun b hb hu => (hV b hu).2.1 hb, h.lc.ac.c.fr hf (fun q => (hV _ q).2.2.2.1 rfl) (fun q => (hV _ q).2.2.2.2.1 rfl) (fun q => (hV _ q).2.2.2.2.2.1 rfl), h.lc.ac.ap, h.lc.ac.len, h.lc.ac.n, h.lc.ac.wl, h.lc.ac.nt.fr13 hf (fun q => (hV _ q).2.2.2.2.2.2 rfl), h.lc.ac.ng⟩, h.lc.lo, h.lc.bel.trans (hf.below h.lc.bel.size fun b hb => (hV b hb).1)⟩, h.pl.fr hf fun b hb hv => (hV b hv).2.2.1 hb, h.ulo, h.us, h.uc, h.un⟩
def takenP (p : Ps) (l : List Nat) (n : Nat) : Ps := { takeAll p (intsOf (placesL p l)) with t := p.t + n }
def genP (p : Ps) : Nat := p.e * 1048576 + p.t
theorem take15_yes (DK : DrvK Rep) (h : Lc15 Rep w0 w S A C k m F T N xs U P p) (hT : Tz w0) (Z n : Nat) (l : List Nat) (hZ : Z ≤ 400) (hn : countN (44 * k) Z = n) (hl : leastD p.n p.f (n : Int) = l) (hlen : l.length = n) (ht : p.t + n ≤ 1048576) :
  Calls Tryz.prog 35 #[.pointer (some ⟨C, 0, none⟩), .pointer (some ⟨P, 0, none⟩), .int .i64 (Z : Int)] w fun e w' => ∃ b, e = .returned (.tuple #[.agg #[.slice (some ⟨b, 0, none⟩) n n, .int .u64 (genP p : Nat), .int .i64 (Z : Int)], .int .i64 0]) ∧ Rw w' b 3 1 n n (ncells (placesL p l)) ∧ w.heap.size ≤ b ∧ Lc15 Rep w0 w' S A C k m F T N xs U P (takenP p l n) ∧ Fr U w w' := by
 have hk := h.lc.ac.c.k1
 have hn10 : n ≤ 10 := by rw [← hn]; exact countN_small (by omega) hZ
 have H := qH h
 have HT := qH hT
 have HL := qH hl
 have HN := qH hlen
 have HC := qH (show countZ (44 * k) (Z : Int) = n by rw [countZ_nat (by omega)]; exact hn)
 clear h hT hl hn
 go_enter Tryz.func35, Tryz.ntmps35
 go_wp2_with fail
 have hba : Below w.heap.size w (w.alloc (.cells #[.slice none 0 0, .int .u64 0, .int .i64 0] 25)) := (Below.refl _ _).alloc (Nat.le_refl _) _
 have hxa := zero_bl3 (w := w)
 obtain ⟨wa, hwa⟩ : ∃ x, x = w.alloc (.cells #[.slice none 0 0, .int .u64 0, .int .i64 0] 25) := ⟨_, rfl⟩
 rw [← hwa] at hba hxa ⊢
 clear hwa
 obtain ⟨B, hB⟩ : ∃ B, B = w.heap.size := ⟨_, rfl⟩
 rw [← hB] at hxa ⊢
 have HB := qH hB
 have NU := qH (show ¬ U B from fun q => by have := H.out.pl.lt _ q; omega)
 have La := qH (H.out.later DK hba)
 have Ba := qH hba
 have Xa := qH hxa
 have hc := count15 (Rm.of La.out.lc.ac.c) (Z : Int) (by omega) (by omega)
 rw [HC.out] at hc
 clear hba hxa hB
 refine hc.mono ?_; clear hc; rintro e w1 ⟨rfl, hw1⟩
 obtain rfl : wa = w1 := hw1.symm
 have h1 := take_any U P p (n : Int) (by omega) (by omega) wa La.out.pl (La.out.tz HT.out)
 unfold RetTake at h1
 rw [HL.out, HN.out] at h1
 go_wp2_with fail
 refine h1.mono ?_; clear h1; rintro e w2 (⟨h1, _⟩ | ⟨_, b, rfl, hr, hb, hp, hf⟩)
 ·omega
 have X2 := qH (show Bl3 w2 B none 0 0 0 0 from hf.row_some Xa.out NU.out)
 have F2 := qH ((Fr.of_below (S := U) Ba.out).trans hf)
 have L2 := qH (La.out.turn DK hp hf)
 have R2 := qH hr
 have HBB := qH (show w.heap.size ≤ b from by have := Ba.out.size; omega)
 have NB := qH (show ¬ U b from fun q => by have := H.out.pl.lt _ q; have := HBB.out; omega)
 have h2 := gens_any U P _ (n : Int) w2 hp
 unfold RetGens14 at h2
 clear hr hb hf hp
 go_wp2_with fail
 refine h2.mono ?_; clear h2; rintro e w3 (⟨h2, _⟩ | ⟨_, h2, _⟩ | ⟨_, _, rfl, hp, hf⟩)
 ·omega
 ·have h2 : (1048576 : Int) - (p.t : Int) < (n : Int) := h2
  omega
 have X3 := qH (show Bl3 w3 B none 0 0 0 0 from hf.row_some X2.out NU.out)
 have R3 := qH (R2.out.fr hf NB.out)
 have F3 := qH (F2.out.trans hf)
 have L3 := qH (show Lc15 Rep w0 w3 S A C k m F T N xs U P (takenP p l n) from L2.out.turn DK hp hf)
 have HG := qH (show (takeAll p (intsOf (placesL p l))).e * 1048576 + (takeAll p (intsOf (placesL p l))).t = genP p from rfl)
 rw [HG.out]
 obtain ⟨g, hg⟩ : ∃ g, g = genP p := ⟨_, rfl⟩
 rw [← hg]
 have Hg := qH hg
 clear hp hf hg X2 R2 F2 L2 HG
 have sz := qH (size_bl3 (A := some ⟨b, 0, none⟩) (n := n) (c := n) (g := (g : Int)) (z := (Z : Int)))
 go_wp2_with (refine at_none ?_; refine wpList_store_row (o := ⟨none, _, _, _, _, _⟩) rfl 25 (.tmp 6) (.tmp 40) rfl B #[.slice (some ⟨b, 0, none⟩) n n, .int .u64 (g : Int), .int .i64 (Z : Int)] rfl rfl 25 _ X3.out sz.out rfl one_bl3 ?_)
 have hfs : Fr (fun b => b = B) w3 (w3.setRow B #[.slice (some ⟨b, 0, none⟩) n n, .int .u64 (g : Int), .int .i64 (Z : Int)]) := Fr.setRow1 _
 have hNB : b ≠ B := fun e => by
  subst e
  have h1 := X3.out
  have h2 := R3.out
  obtain ⟨cur, h3, _⟩ := h2.ex
  rw [show w3.heap[b]? = _ from h1] at h3
  injection h3 with h3
  injection h3 with _ h3 _
  exact absurd h3 (by decide)
 refine bodyPost_ret (results_cell_pair Tryz.results35 _ _ B 25 _ (0, 0) _ rfl (setRow_heap _ _ _ _ _ _ X3.out) Tryz.underlying25 rfl sz.out) rfl ?_
 have hfr := H.out.fresh (b := B) (by have := HB.out; omega)
 exact ⟨b, by rw [← Hg.out]; rfl, R3.out.fr hfs hNB, HBB.out, L3.out.box DK hfs (fun x hx => by
  have hx : x = B := hx
  subst hx
  exact ⟨by have := H.out.lc.bel.size; have := HB.out; omega, hfr⟩), F3.out.setRow (by have := HB.out; omega) _⟩
theorem take15_no (DK : DrvK Rep) (h : Lc15 Rep w0 w S A C k m F T N xs U P p) (hT : Tz w0) (Z n : Nat) (hZ : Z ≤ 400) (hn : countN (44 * k) Z = n) (hl : ((leastD p.n p.f (n : Int)).length : Int) < (n : Int)) :
  Calls Tryz.prog 35 #[.pointer (some ⟨C, 0, none⟩), .pointer (some ⟨P, 0, none⟩), .int .i64 (Z : Int)] w fun e w' => e = .returned (.tuple #[.agg #[.slice none 0 0, .int .u64 0, .int .i64 0], .int .i64 140]) ∧ Below w.heap.size w w' := by
 have hk := h.lc.ac.c.k1
 have hn10 : n ≤ 10 := by rw [← hn]; exact countN_small (by omega) hZ
 have H := qH h
 have HT := qH hT
 have HL := qH hl
 have HC := qH (show countZ (44 * k) (Z : Int) = n by rw [countZ_nat (by omega)]; exact hn)
 clear h hT hl hn
 go_enter Tryz.func35, Tryz.ntmps35
 go_wp2_with fail
 have hba : Below w.heap.size w (w.alloc (.cells #[.slice none 0 0, .int .u64 0, .int .i64 0] 25)) := (Below.refl _ _).alloc (Nat.le_refl _) _
 have hxa := zero_bl3 (w := w)
 obtain ⟨wa, hwa⟩ : ∃ x, x = w.alloc (.cells #[.slice none 0 0, .int .u64 0, .int .i64 0] 25) := ⟨_, rfl⟩
 rw [← hwa] at hba hxa ⊢
 clear hwa
 obtain ⟨B, hB⟩ : ∃ B, B = w.heap.size := ⟨_, rfl⟩
 rw [← hB] at hxa ⊢
 have HB := qH hB
 have La := qH (H.out.later DK hba)
 have Ba := qH hba
 have Xa := qH hxa
 have hc := count15 (Rm.of La.out.lc.ac.c) (Z : Int) (by omega) (by omega)
 rw [HC.out] at hc
 clear hba hxa hB
 refine hc.mono ?_; clear hc; rintro e w1 ⟨rfl, hw1⟩
 obtain rfl : wa = w1 := hw1.symm
 have h1 := take_any U P p (n : Int) (by omega) (by omega) wa La.out.pl (La.out.tz HT.out)
 unfold RetTake at h1
 go_wp2_with fail
 refine h1.mono ?_; clear h1; rintro e w2 (⟨_, rfl, hb⟩ | ⟨h1, _⟩)
 ·have X2 := qH (Xa.out.later hb)
  have B2 := qH (Ba.out.trans (hb.mono Ba.out.size))
  clear hb
  have sz := qH (size_bl3 (A := none) (n := 0) (c := 0) (g := 0) (z := 0))
  go_wp2_with (refine at_none ?_; refine wpList_store_row (o := ⟨none, _, _, _, _, _⟩) rfl 25 (.tmp 6) (.tmp 21) rfl B #[.slice none 0 0, .int .u64 0, .int .i64 0] rfl rfl 25 _ X2.out sz.out rfl one_bl3 ?_)
  refine bodyPost_ret (results_cell_pair Tryz.results35 _ _ B 25 _ (0, 0) _ rfl (setRow_heap _ _ _ _ _ _ X2.out) Tryz.underlying25 rfl sz.out) rfl ?_
  exact ⟨rfl, below_setRow B2.out (by have := HB.out; omega) _⟩
 ·have := HL.out
  omega
end
end Go.Proofs.YthmneinejfbheaaGreatDoor
