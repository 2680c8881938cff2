/-
  Words on a map from integers to integers that a call has made: keys, zero values, what a later world keeps. No condition.
-/
import Derived.Test.YtmlmlmlbdjhfhaaGa
import Derived.Maps.OwnOps
import Derived.Maps.Views
namespace Go.Proofs.Ytmlmlmlbdjhfhaa
open Go.RowKit Go.Proofs Go.Maps
set_option linter.unusedVariables false

theorem keyedI : Keyed Try.prog 3 := int_keyed Try.underlying3
theorem zeroI (w : World) : (zeroValue 3).run Try.prog w = .ok (.int .i64 0) w := by kernel_rfl
theorem lit_inj {a b : Int} (h : (DataW.lit (.int .i64 a) : DataW Unit) = .lit (.int .i64 b)) : a = b := by
  injection h with h
  injection h
theorem wf_of {x : Int} (h : -9223372036854775808 ≤ x ∧ x < 9223372036854775808) : (Lit.int .i64 x).wf = true := by
  have e1 : IntKind.i64.min = -9223372036854775808 := by decide
  have e2 : IntKind.i64.max = 9223372036854775807 := by decide
  show (decide (_ ≤ x) && decide (x ≤ _)) = true
  rw [e1, e2, Bool.and_eq_true]
  exact ⟨decide_eq_true h.1, decide_eq_true (by omega)⟩
theorem ownsMap_below {w w' : World} {b n : Nat} {D : DataW Unit} {R : Value → Option (DataW Unit × List MemPlace)} (h : w.ownsMap Try.prog 3 R b n D) (hb : Below w.heap.size w w') : w'.ownsMap Try.prog 3 R b n D := by
  have hbl := h.lt
  obtain ⟨es, clock, h1, h2, h3, h4⟩ := h
  exact ⟨es, clock, (hb.block b hbl).trans h1, h2, h3, h4⟩
theorem ownsMap_fr {w w' : World} {b n : Nat} {D : DataW Unit} {R : Value → Option (DataW Unit × List MemPlace)} {S : Nat → Prop} (h : w.ownsMap Try.prog 3 R b n D) (hf : Fr S w w') (hb : ¬ S b) : w'.ownsMap Try.prog 3 R b n D := by
  have hbl := h.lt
  obtain ⟨es, clock, h1, h2, h3, h4⟩ := h
  exact ⟨es, clock, hf.row_some h1 hb, h2, h3, h4⟩
end Go.Proofs.Ytmlmlmlbdjhfhaa
