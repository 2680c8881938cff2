/-
  The document's Put (layer 1) told in full: what it answers may be appended to. The document's Closed and number (layer 11). Condition: slices shorter than 2^47 less 8. And what goes with it below the laws of layer 13. No condition but what each theorem says.
-/
import Derived.Test.YthmneinejfbheaaGreatDoorLa
import Derived.Deep.DeepCutAuto
set_option linter.unusedVariables false
set_option maxRecDepth 20000
set_option maxHeartbeats 1600000
namespace Go.Proofs.YthmneinejfbheaaGreatDoor
section
open Go.RowKit Go.Proofs
end
section
open Go.RowKit Go.Proofs
end
section
open Go.RowKit Go.Proofs
end
end Go.Proofs.YthmneinejfbheaaGreatDoor
