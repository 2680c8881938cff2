/-
  The document's Put (layer 1) told in full: what it answers may be appended to. The document's Closed and number (layer 11). Condition: slices shorter than 2^47 less 8. And what goes with it below the laws of layer 13. No condition but what each theorem says.
-/
import Derived.Test.YtokbhgbajdomnaaGreatDoorLa
import Derived.Deep.DeepCutAuto
set_option linter.unusedVariables false
set_option maxRecDepth 20000
set_option maxHeartbeats 1600000
namespace Go.Proofs.YtokbhgbajdomnaaGreatDoor
section
open Go.RowKit Go.Proofs
end
section
open Go.RowKit Go.Proofs
end
section
open Go.RowKit Go.Proofs
theorem closed_iff {l : List UInt8} (hl : l.length = 64) : closed (l.take 60) = l ↔ leVal ((l.drop 60).take 4) = sumOf (l.take 60) := by
 have h60 : (l.take 60).length = 60 := by rw [List.length_take]; omega
 constructor
 ·intro h
  have := closed_sum (l.take 60) h60
  rw [closed_take _ h60, h] at this
  exact this
 ·intro h
  have e4 := le_leVal ((l.drop 60).take 4)
  rw [show ((l.drop 60).take 4).length = 4 by rw [List.length_take, List.length_drop, hl]; rfl, h] at e4
  have ed : (l.drop 60).take 4 = l.drop 60 := List.take_of_length_le (by rw [List.length_drop, hl]; exact Nat.le_refl _)
  rw [closed, e4, ed, List.take_append_drop]
end
end Go.Proofs.YtokbhgbajdomnaaGreatDoor
