/-
  Integers in memory, and a slice of integers that came in, as a list of integers. No condition.
-/
import Derived.Test.YtjacdabhlnfbkaaGa
import Derived.OpenShut
namespace Go.Proofs.Ytjacdabhlnfbkaa
open Go.RowKit Go.Proofs
set_option linter.unusedVariables false

/-- Integers as cells. -/
def icells (l : List Int) : List Value := l.map (Value.int .i64)
theorem icells_length (l : List Int) : (icells l).length = l.length := by simp [icells]
theorem icells_get (l : List Int) (j : Nat) (h : j < l.length) : (icells l)[j]? = some (.int .i64 l[j]) := by simp [icells, h]

theorem IsRow.sli {w : World} {a : Option Addr} {len cap : Nat} {zs : List Int} (h : IsRow .i64 w a len cap zs) : ∃ l : List Int, l.length = len ∧ Sl w 1 a len cap (icells l) ∧ ∀ z ∈ l, -9223372036854775808 ≤ z ∧ z < 9223372036854775808 := by
  rcases h with ⟨rfl, rfl, rfl, rfl⟩ | ⟨x, rfl, hl, hm, hz, hc, hw⟩
  · exact ⟨[], rfl, Sl.nil w 1 0 (by decide), fun z hz => by cases hz⟩
  · refine ⟨zs.take len, by rw [List.length_take]; omega, ⟨by rw [icells_length, List.length_take, Nat.mul_one]; omega, hl, hm, fun j u hu => ?_⟩, fun z hz' => by have := bounds_i64 (hw z (List.mem_of_mem_take hz')); omega⟩
    have hj : j < len := by
      rcases Nat.lt_or_ge j len with h' | h'
      · exact h'
      · rw [List.getElem?_eq_none (by rw [icells_length, List.length_take]; omega)] at hu
        cases hu
    obtain ⟨b, off, rfl, hcell⟩ := ints_at hc (by omega)
    refine ⟨b, off, rfl, ?_⟩
    have hjz : j < zs.length := by omega
    rw [hcell j hjz]
    rw [icells_get _ _ (by rw [List.length_take]; omega)] at hu
    rw [← hu, List.getElem_take, List.getD_eq_getElem?_getD, List.getElem?_eq_getElem hjz, Option.getD_some]

end Go.Proofs.Ytjacdabhlnfbkaa
