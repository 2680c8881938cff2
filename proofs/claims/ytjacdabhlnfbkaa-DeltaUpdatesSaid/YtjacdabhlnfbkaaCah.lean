/-
  Contracts of package code's Join. Condition: the coder is one that New made ('Cod').
-/
import Derived.Test.YtjacdabhlnfbkaaCaf
import Derived.BigQuiet
import Derived.Deep.RegionWith
namespace Go.Proofs.Ytjacdabhlnfbkaa
open Go.RowKit Go.Proofs
set_option linter.unusedVariables false

theorem flat_len {rs : List (List UInt8)} {W : Nat} : ∀ j, j ≤ rs.length → (∀ i, i < rs.length → (rs.getD i []).length = W) → (rs.take j).flatten.length = j * W
  | 0, _, _ => by simp
  | j + 1, hj, h => by
    rw [← List.take_append_getElem (show j < rs.length by omega), List.flatten_append, List.length_append, flat_len j (by omega) h, Nat.add_mul, Nat.one_mul]
    have := h j (by omega)
    rw [show rs.getD j [] = rs[j]'(by omega) from by simp [show j < rs.length by omega]] at this
    simp [this]
theorem flat_all {rs : List (List UInt8)} (h : levelB rs = true) : rs.flatten.length = rs.length * (rs.getD 0 []).length := by
  have := flat_len (rs := rs) (W := (rs.getD 0 []).length) rs.length (Nat.le_refl _) (fun i hi => levelB_at h hi)
  rwa [List.take_of_length_le (Nat.le_refl _)] at this
theorem flat_next {rs : List (List UInt8)} {j : Nat} (hj : j < rs.length) (S : Nat) : (rs.take j).flatten.take S ++ (rs.getD j []).take (S - (rs.take j).flatten.length) = (rs.take (j + 1)).flatten.take S := by
  rw [← List.take_append_getElem hj, List.flatten_append, List.take_append]
  congr 2
  simp [hj]

/-- May rows be joined to so many bytes? -/
def okJ (rs : List (List UInt8)) (k S : Int) : Prop := evenB rs k = true ∧ 0 ≤ S ∧ S ≤ (rs.flatten.length : Int)

end Go.Proofs.Ytjacdabhlnfbkaa
