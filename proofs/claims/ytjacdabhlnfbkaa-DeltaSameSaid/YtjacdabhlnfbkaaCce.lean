/-
  CodeBack returns true, whatever its arguments. No condition.
-/
import Derived.Test.YtjacdabhlnfbkaaCcd
namespace Go.Proofs.Ytjacdabhlnfbkaa
open Go.RowKit Go.Proofs
set_option linter.unusedVariables false

theorem flat_cut (l : List UInt8) (V : Nat) : ∀ j, (cutL l V j).flatten = rowL (j * V) fun p => l.getD p 0
  | 0 => by simp [cutL, rowL]
  | j + 1 => by
    rw [← cutL_next, List.flatten_append, flat_cut l V j, show [cutR l V j].flatten = cutR l V j by simp, cutR, rowL_append, Nat.add_mul, Nat.one_mul]
    apply rowL_congr
    intro p hp
    by_cases h : p < j * V
    · rw [if_pos h]
    · rw [if_neg h, show j * V + (p - j * V) = p by omega]
theorem cut_back (l : List UInt8) (V k : Nat) (h : l.length ≤ k * V) : (cutL l V k).flatten.take l.length = l := by
  rw [flat_cut]
  apply List.ext_getElem?
  intro p
  rw [List.getElem?_take]
  split
  · rename_i hp
    rw [rowL_get _ _ _ (by omega)]
    simp [hp]
  · rename_i hp
    rw [List.getElem?_eq_none (by omega)]
theorem cut_len (l : List UInt8) (V k : Nat) : (cutL l V k).flatten.length = k * V := by rw [flat_cut, rowL_length]
theorem cut_getD (l : List UInt8) (V k j : Nat) (h : j < k) : (cutL l V k).getD j [] = cutR l V j := by simp [cutL, h]
theorem cut_even (l : List UInt8) (V k : Nat) : evenB (cutL l V k) (k : Int) = true := by
  rw [evenB, cutL_length, decide_eq_true rfl, Bool.true_and]
  refine decide_eq_true fun j hj => ?_
  rw [cutL_length] at hj
  rw [cut_getD l V k j hj, cut_getD l V k 0 (by omega), cutR_length, cutR_length]
theorem cut_rows (l : List UInt8) (V k : Nat) : ∀ r ∈ cutL l V k, r.length = V := by
  intro r hr
  obtain ⟨j, _, rfl⟩ := List.mem_map.1 hr
  exact cutR_length _ _ _

end Go.Proofs.Ytjacdabhlnfbkaa
