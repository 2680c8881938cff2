/-
  Values are put and got of stripes that are whole ('StrV' of package stripe's calls, no inverse asked for). Condition: drives as 'Ac13' says.
-/
import Derived.Test.YtokbhgbajdomnaaGreatDoorPc
import Derived.Test.YtokbhgbajdomnaaGreatDoorEgc
set_option linter.unusedVariables false
namespace Go.Proofs.YtokbhgbajdomnaaGreatDoor
open Go.RowKit Go.Proofs
theorem strV_whole {Rep : World → (Nat → Prop) → Nat → Dv → Prop} (DK : DrvK Rep) : StrV Rep (fun _ n G => ∀ d, d < n → G d = true) where
 put := fun kd p g b A2 c2 h hr hp hs => stput_any DK kd p g b A2 c2 rfl rfl h hr hp hs
 get := fun h hr hp hs hG => stget_whole DK rfl rfl h hr hp hs hG
 whole := fun h hr hp hs => (stwhole_any DK rfl rfl h hr hp hs).mono fun e w' ⟨A2, c2, h1, _, h3, _⟩ => ⟨A2, c2, h1, h3⟩
 room := fun h => sroom_any h
end Go.Proofs.YtokbhgbajdomnaaGreatDoor
