/-
  The contract of package blob's Put. Conditions: bounds; both tables read as the row lists them. (Written by gen_ehg.py.)
-/
import Derived.Test.YtokbhgbajdomnaaGreatDoorEhf
set_option linter.unusedVariables false
namespace Go.Proofs.YtokbhgbajdomnaaGreatDoor
open Go.RowKit Go.Proofs
section
variable {Rep : World → (Nat → Prop) → Nat → Dv → Prop} {Good : Nat → Nat → (Nat → Bool) → Prop} {w0 w w' : World} {S U : Nat → Prop} {A C k m F T N P : Nat} {xs : List Dv} {p : Ps}
end
end Go.Proofs.YtokbhgbajdomnaaGreatDoor
