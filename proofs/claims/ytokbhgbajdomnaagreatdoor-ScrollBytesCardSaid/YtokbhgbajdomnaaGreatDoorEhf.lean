/-
  An array, a coder and a pool within a law's call ('Lc15'); package blob's take. Conditions: bounds; the table of bits reads as the row lists it ('Tz').
-/
import Derived.Test.YtokbhgbajdomnaaGreatDoorEhd
import Derived.Test.YtokbhgbajdomnaaGreatDoorEhe
import Derived.Test.YtokbhgbajdomnaaGreatDoorEgc
set_option linter.unusedVariables false
namespace Go.Proofs.YtokbhgbajdomnaaGreatDoor
open Go.RowKit Go.Proofs
structure Lc15 (Rep : World → (Nat → Prop) → Nat → Dv → Prop) (w0 w : World) (S : Nat → Prop) (A C k m F T N : Nat) (xs : List Dv) (U : Nat → Prop) (P : Nat) (p : Ps) : Prop where
 lc : Lc13 Rep w0 w S A C k m F T N xs
 pl : Pl w U P p
 ulo : ∀ b, U b → w0.heap.size ≤ b
 us : ∀ b, U b → ¬ S b
 uc : ∀ b, U b → b ≠ C ∧ b ≠ F ∧ b ≠ T
 un : ¬ U 1
section
variable {Rep : World → (Nat → Prop) → Nat → Dv → Prop} {w0 w w' : World} {S U : Nat → Prop} {A C k m F T N P : Nat} {xs ys : List Dv} {p q : Ps}
theorem Lc15.later (DK : DrvK Rep) (h : Lc15 Rep w0 w S A C k m F T N xs U P p) (hb : Below w.heap.size w w') : Lc15 Rep w0 w' S A C k m F T N xs U P p := ⟨h.lc.later DK hb, h.pl.later hb, h.ulo, h.us, h.uc, h.un⟩
theorem Lc15.turn (DK : DrvK Rep) (h : Lc15 Rep w0 w S A C k m F T N xs U P p) (hp : Pl w' U P q) (hf : Fr U w w') : Lc15 Rep w0 w' S A C k m F T N xs U P q :=
 ⟨⟨⟨h.lc.ac.a.fr DK.lay hf fun b hb hu => h.us b hu hb, h.lc.ac.c.fr hf (fun q => (h.uc _ q).1 rfl) (fun q => (h.uc _ q).2.1 rfl) (fun q => (h.uc _ q).2.2 rfl), h.lc.ac.ap, h.lc.ac.len, h.lc.ac.n, h.lc.ac.wl, h.lc.ac.nt.fr13 hf h.un, h.lc.ac.ng⟩, h.lc.lo, h.lc.bel.trans (hf.below h.lc.bel.size h.ulo)⟩, hp, h.ulo, h.us, h.uc, h.un⟩
theorem Lc15.mut (h : Lc15 Rep w0 w S A C k m F T N xs U P p) (hm : MutA Rep S A ys w w') (hl : ys.length = xs.length) (hn : ∀ (d : Nat) (x : Dv), ys[d]? = some x → x.Ok ∧ x.n = N) (hw : Wl 1000 ys) : ∃ S', Lc15 Rep w0 w' S' A C k m F T N ys U P p ∧ Nxt S S' w w' := by
 obtain ⟨S', h1, h2⟩ := h.lc.mut hm hl hn hw
 exact ⟨S', ⟨h1, h.pl.fr h2.1 h.us, h.ulo, fun b hb hs => (h2.2 b hs).elim (h.us b hb) (fun q => by have := h.pl.lt b hb; omega), h.uc, h.un⟩, h2⟩
theorem Lc15.tz (h : Lc15 Rep w0 w S A C k m F T N xs U P p) (hT : Tz w0) : Tz w := hT.keep h.lc.bel
theorem Lc15.made {k m f c : Nat} {e : Ending} (h : RetMade15 Rep k m f c w e w') (hb : Below w0.heap.size w0 w) (hN : Nt w) : ∃ A S C F T U P, e = .returned (.tuple #[.pointer (some ⟨A, 0, none⟩), .pointer (some ⟨C, 0, none⟩), .pointer (some ⟨P, 0, none⟩)]) ∧ Lc15 Rep w0 w' S A C k m F T (f + c) (List.replicate (k + m) (Dv.new (f + c))) U P (newP f c) ∧ Below w.heap.size w w' ∧ ∀ b, S b ∨ U b → w.heap.size ≤ b := by
 obtain ⟨A, S, C, F, T, U, P, he, ha, hc, hbel, hS, h1, h2, h3, hp, hU⟩ := h
 obtain ⟨A', S', C', F', T', he', hL, hSl, _⟩ := Lc13.made (e := .returned (.tuple #[.pointer (some ⟨A, 0, none⟩), .pointer (some ⟨C, 0, none⟩)])) ⟨A, S, C, F, T, rfl, ha, hc, hbel, hS, h1, h2, h3⟩ hb hN
 refine ⟨A, S, C, F, T, U, P, he, ⟨?_, hp, fun b hu => by have := (hU b hu).1; have := hb.size; omega, fun b hu => (hU b hu).2.1, fun b hu => (hU b hu).2.2, fun hu => by have := (hU _ hu).1; have := hN.lt13; omega⟩, hbel, fun b hb' => hb'.elim (fun q => (hS b q).1) (fun q => (hU b q).1)⟩
 refine ⟨⟨ha, hc, ⟨fun q => ?_, fun q => ?_, fun q => ?_⟩, List.length_replicate .., fun d x hx => ?_, fun d x hx => ?_, hN.keep hbel, fun q => ?_⟩, fun b hb' => ?_, hb.trans (hbel.mono hb.size)⟩
 ·have := (hS _ q).2.1; omega
 ·have := (hS _ q).2.2.1; omega
 ·have := (hS _ q).2.2.2; omega
 ·rw [List.getElem?_replicate] at hx
  split at hx
  ·injection hx with hx; rw [← hx]; exact ⟨Dv.new_ok _, Dv.new_n _⟩
  ·cases hx
 ·rw [Idle.new d x hx]; exact Nat.zero_le _
 ·have := (hS _ q).1; have := hN.lt13; omega
 ·have := (hS b hb').1; have := hb.size; omega
theorem Fr.setRow1 {w : World} {B : Nat} (cs : Array Value) : Fr (fun b => b = B) w (w.setRow B cs) := ⟨rfl, rfl, rfl, by simp, fun k hk hn => setRow_other _ _ _ _ (fun e => hn e)⟩
theorem Lc15.fresh (h : Lc15 Rep w0 w S A C k m F T N xs U P p) {b : Nat} (hb : w.heap.size ≤ b) : ¬ S b ∧ ¬ U b ∧ b ≠ C ∧ b ≠ F ∧ b ≠ T ∧ b ≠ 1 := by
 have h1 := block_lt h.lc.ac.c.row
 have h2 : F < w.heap.size := World.block_lt_of_cell? w _ h.lc.ac.c.fld.cell
 have h3 := h.lc.ac.c.fld.fld.ltT
 have h4 := h.lc.ac.nt.lt13
 exact ⟨fun q => by have := h.lc.ac.a.old q; omega, fun q => by have := h.pl.lt b q; omega, by omega, by omega, by omega, by omega⟩
theorem Lc15.box (DK : DrvK Rep) {V : Nat → Prop} (h : Lc15 Rep w0 w S A C k m F T N xs U P p) (hf : Fr V w w') (hV : ∀ b, V b → w0.heap.size ≤ b ∧ ¬ S b ∧ ¬ U b ∧ b ≠ C ∧ b ≠ F ∧ b ≠ T ∧ b ≠ 1) : Lc15 Rep w0 w' S A C k m F T N xs U P p :=
 ⟨⟨⟨h.lc.ac.a.fr DK.lay hf fun b hb hu => (hV b hu).2.1 hb, h.lc.ac.c.fr hf (fun q => (hV _ q).2.2.2.1 rfl) (fun q => (hV _ q).2.2.2.2.1 rfl) (fun q => (hV _ q).2.2.2.2.2.1 rfl), h.lc.ac.ap, h.lc.ac.len, h.lc.ac.n, h.lc.ac.wl, h.lc.ac.nt.fr13 hf (fun q => (hV _ q).2.2.2.2.2.2 rfl), h.lc.ac.ng⟩, h.lc.lo, h.lc.bel.trans (hf.below h.lc.bel.size fun b hb => (hV b hb).1)⟩, h.pl.fr hf fun b hb hv => (hV b hv).2.2.1 hb, h.ulo, h.us, h.uc, h.un⟩
def takenP (p : Ps) (l : List Nat) (n : Nat) : Ps := { takeAll p (intsOf (placesL p l)) with t := p.t + n }
def genP (p : Ps) : Nat := p.e * 1048576 + p.t
end
end Go.Proofs.YtokbhgbajdomnaaGreatDoor
