/-
  Regions that draw their order: the condition on the world may be made stronger on the way. Nothing here speaks of the program's own text. No condition.
-/
import Derived.Test.YtccnoflgbopjlaaFr
import Derived.Deep.RegionHeld
namespace Go.Proofs.Ytccnoflgbopjlaa
open Go.RowKit

theorem wpAnyH_re {P : Program} {md : Region.Mode} {ops : Array Oper} {Q : Exit → Act → World → Prop} {S S' : World → Prop} (hS : ∀ w, S' w → S w) :
    ∀ {fuel : Nat} {listed : Array Bool} {a : Act} {w : World}, wpAnyH P md ops Q S' fuel listed a w → wpAnyH P md ops Q S fuel listed a w
  | 0, _, _, _, h => h
  | _ + 1, _, _, _, h => ⟨h.1, fun i hi => wpOp_mono (fun _ w' h' => ⟨hS w' h'.1, wpAnyH_re hS h'.2⟩) (h.2 i hi)⟩
end Go.Proofs.Ytccnoflgbopjlaa
