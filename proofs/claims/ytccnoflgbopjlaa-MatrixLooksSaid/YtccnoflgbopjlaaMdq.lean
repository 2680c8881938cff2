/-
  Words of an array of 256 bools: which bytes were met. No program's text is walked. No condition.
-/
import Derived.Test.YtccnoflgbopjlaaFdm
import Derived.Test.YtccnoflgbopjlaaProg
namespace Go.Proofs.Ytccnoflgbopjlaa
open Go.RowKit Go.Proofs
set_option linter.unusedVariables false

/-- Which bytes stand in s. -/
def metA (s : List UInt8) : Array Value := rowOf 256 fun k => .bool (decide (UInt8.ofNat k ∈ s))
theorem metA_size (s : List UInt8) : (metA s).size = 256 := rowOf_size _ _
theorem metA_get (s : List UInt8) (x : UInt8) : (metA s)[x.toNat]? = some (.bool (decide (x ∈ s))) := by
  rw [metA, rowOf_get _ _ _ x.toNat_lt, UInt8.ofNat_toNat]
theorem metA_set (s : List UInt8) (x : UInt8) : (metA s).setIfInBounds x.toNat (.bool true) = metA (s ++ [x]) := by
  refine rowOf_set x.toNat _ ?_ fun k hk hne => ?_
  · simp [UInt8.ofNat_toNat]
  · have : UInt8.ofNat k ≠ x := fun e => hne (by rw [← e, UInt8.toNat_ofNat']; omega)
    simp [this]
theorem metA_nil : metA [] = rowOf 256 fun _ => .bool false := rowOf_congr fun k _ => by simp
theorem zero_met (w : World) : (zeroValue 98).run Try.prog w = .ok (.agg (metA [])) w := by kernel_rfl
end Go.Proofs.Ytccnoflgbopjlaa
