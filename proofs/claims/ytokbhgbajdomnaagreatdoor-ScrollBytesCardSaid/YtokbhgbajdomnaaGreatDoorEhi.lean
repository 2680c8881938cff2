/-
  The contract of package blob's Get of a value whose stripes are good enough; and of Get without an array or a coder. Conditions: bounds. (Written by gen_ehi.py.)
-/
import Derived.Test.YtokbhgbajdomnaaGreatDoorEhg
set_option linter.unusedVariables false
namespace Go.Proofs.YtokbhgbajdomnaaGreatDoor
open Go.RowKit Go.Proofs
section
variable {Rep : World → (Nat → Prop) → Nat → Dv → Prop} {Good : Nat → Nat → (Nat → Bool) → Prop} {w w' : World} {S : Nat → Prop} {A C k m F T N : Nat} {xs : List Dv}
theorem Ac13.box (DK : DrvK Rep) {V : Nat → Prop} (h : Ac13 Rep w S A C k m F T N xs) (hf : Fr V w w') (hV : ∀ b, V b → ¬ S b ∧ b ≠ C ∧ b ≠ F ∧ b ≠ T ∧ b ≠ 1) : Ac13 Rep w' S A C k m F T N xs :=
 ⟨h.a.fr DK.lay hf fun b hb hu => (hV b hu).1 hb, h.c.fr hf (fun q => (hV _ q).2.1 rfl) (fun q => (hV _ q).2.2.1 rfl) (fun q => (hV _ q).2.2.2.1 rfl), h.ap, h.len, h.n, h.wl, h.nt.fr13 hf (fun q => (hV _ q).2.2.2.2 rfl), h.ng⟩
end
end Go.Proofs.YtokbhgbajdomnaaGreatDoor
