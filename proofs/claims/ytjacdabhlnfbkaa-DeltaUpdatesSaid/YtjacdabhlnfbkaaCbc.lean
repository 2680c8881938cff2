/-
  Contracts of the document's Split, Join, Same of layer 5, and of the statements' own sum of rows. No condition but bounds.
-/
import Derived.Test.YtjacdabhlnfbkaaCba
import Derived.Test.YtjacdabhlnfbkaaCag
import Derived.Test.YtjacdabhlnfbkaaCah
import Derived.StillTailTactics
namespace Go.Proofs.Ytjacdabhlnfbkaa
open Go.RowKit Go.Proofs
set_option linter.unusedVariables false

/-- The first p bytes of a row that is cut, noughts behind. -/
def cutN (l : List UInt8) (W i p : Nat) : List UInt8 := rowL W fun x => if x < p then l.getD (i * W + x) 0 else 0
theorem cutN_zero (l : List UInt8) (W i : Nat) : cutN l W i 0 = List.replicate W 0 := by
  apply List.ext_getElem
  · simp [cutN, rowL]
  · intro x h1 h2
    simp [cutN, rowL]
theorem cutN_length (l : List UInt8) (W i p : Nat) : (cutN l W i p).length = W := rowL_length _ _
theorem cutN_all (l : List UInt8) (W i p : Nat) (h : W ≤ p ∨ l.length ≤ i * W + p) : cutN l W i p = cutR l W i := by
  apply rowL_congr
  intro x hx
  by_cases hxp : x < p
  · rw [if_pos hxp]
  · rw [if_neg hxp]
    have : l.length ≤ i * W + x := by omega
    simp [this]
theorem cutN_at (l : List UInt8) (W i p : Nat) (h : p < W) : (cutN l W i p)[p]? = some 0 := by rw [cutN, rowL_get _ _ _ h, if_neg (by omega)]
theorem cutN_set (l : List UInt8) (W i p : Nat) (h : p < W) : (cutN l W i p).set p (l.getD (i * W + p) 0) = cutN l W i (p + 1) := by
  apply List.ext_getElem
  · simp [cutN, rowL]
  · intro x h1 h2
    rw [List.getElem_set]
    by_cases he : p = x
    · subst he
      simp [cutN, rowL]
    · rw [if_neg he]
      have h3 : (x < p + 1) = (x < p) := by apply propext; omega
      simp only [cutN, rowL, List.getElem_map, List.getElem_range, h3]

end Go.Proofs.Ytjacdabhlnfbkaa
