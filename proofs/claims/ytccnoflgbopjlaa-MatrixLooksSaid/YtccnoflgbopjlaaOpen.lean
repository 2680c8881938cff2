/-
  Arguments as they are read: bytes, integers, matrices. No condition.
-/
import Derived.Test.YtccnoflgbopjlaaMdu
import Derived.Test.YtccnoflgbopjlaaArg
import Derived.Lib.SmallJoins
import Derived.ProofKit
import Derived.OpenShut
import Derived.ChangeOld
namespace Go.Proofs.Ytccnoflgbopjlaa
open Go.ChangeShapes Go.WideShapes Go.ChangeAt Go.RowKit Go.Proofs
set_option linter.unusedVariables false

/-- Integers as cells. -/
def icells (l : List Int) : List Value := l.map (Value.int .i64)
theorem icells_length (l : List Int) : (icells l).length = l.length := by simp [icells]
theorem icells_get (l : List Int) (j : Nat) (h : j < l.length) : (icells l)[j]? = some (.int .i64 l[j]) := by simp [icells, h]

theorem IsRow.sli {w : World} {a : Option Addr} {len cap : Nat} {zs : List Int} (h : IsRow .i64 w a len cap zs) : ∃ l : List Int, l.length = len ∧ Sl w 1 a len cap (icells l) ∧ ∀ z ∈ l, -9223372036854775808 ≤ z ∧ z < 9223372036854775808 := by
  rcases h with ⟨rfl, rfl, rfl, rfl⟩ | ⟨x, rfl, hl, hm, hz, hc, hw⟩
  · exact ⟨[], rfl, Sl.nil w 1 0 (by decide), fun z hz => by cases hz⟩
  · refine ⟨zs.take len, by rw [List.length_take]; omega, ⟨by rw [icells_length, List.length_take, Nat.mul_one]; omega, hl, hm, fun j u hu => ?_⟩, fun z hz' => by have := bounds_i64 (hw z (List.mem_of_mem_take hz')); omega⟩
    have hj : j < len := by
      rcases Nat.lt_or_ge j len with h' | h'
      · exact h'
      · rw [List.getElem?_eq_none (by rw [icells_length, List.length_take]; omega)] at hu
        cases hu
    obtain ⟨b, off, rfl, hcell⟩ := ints_at hc (by omega)
    refine ⟨b, off, rfl, ?_⟩
    have hjz : j < zs.length := by omega
    rw [hcell j hjz]
    rw [icells_get _ _ (by rw [List.length_take]; omega)] at hu
    rw [← hu, List.getElem_take, List.getD_eq_getElem?_getD, List.getElem?_eq_getElem hjz, Option.getD_some]

section
variable {H : Type} {enc : TypeId × Value → H} {w : World} {base : Nat} {held : Bool} {fuel : Nat}
theorem row_u8 {cs : List Value} {y : DataW H × List MemPlace} (h : DataW.trod enc Try.prog w base (fun _ => true) held fuel 22 cs = some y) : ∃ A n cp, cs = [.slice A n cp] ∧ ∃ l : List UInt8, Sl w 1 A n cp (cells l) := by
  rcases open_ints Try.underlying22 Try.underlying5 (by kernel_rfl) h with ⟨hcs, _⟩ | ⟨x, l, c, zs, hcs, _, hl, hm, hz, _, hcell, hwz⟩
  · exact ⟨_, _, _, hcs, [], Sl.nil w 1 0 (by decide)⟩
  · exact ⟨_, _, _, hcs, IsRow.sl (.inr ⟨_, rfl, hl, hm, by simpa using hz, hcell, hwz⟩)⟩
theorem row_int {cs : List Value} {y : DataW H × List MemPlace} (h : DataW.trod enc Try.prog w base (fun _ => true) held fuel 25 cs = some y) : ∃ A n cp, cs = [.slice A n cp] ∧ ∃ l : List Int, l.length = n ∧ Sl w 1 A n cp (icells l) ∧ ∀ z ∈ l, -9223372036854775808 ≤ z ∧ z < 9223372036854775808 := by
  rcases open_ints Try.underlying25 Try.underlying3 (by kernel_rfl) h with ⟨hcs, _⟩ | ⟨x, l, c, zs, hcs, _, hl, hm, hz, _, hcell, hwz⟩
  · exact ⟨_, _, _, hcs, [], rfl, Sl.nil w 1 0 (by decide), fun z hz => by cases hz⟩
  · exact ⟨_, _, _, hcs, IsRow.sli (.inr ⟨_, rfl, hl, hm, by simpa using hz, hcell, hwz⟩)⟩
set_option maxRecDepth 100000 in
theorem arg_u8 {v : Value} {d : DataW H} {p : List MemPlace} {r : Reach} {b0 : Nat} (hv : Value.okWide Try.prog w r b0 22 v) (h : DataW.Trod enc Try.prog w base (fun _ => true) held 22 v d p) :
    ∃ A cp, ∃ l : List UInt8, v = .slice A l.length cp ∧ Sl w 1 A l.length cp (cells l) := by
  obtain ⟨A, n, cp, rfl⟩ := okWide_slice Try.underlying22 hv
  obtain ⟨fuel, hf⟩ := h
  obtain ⟨A', n', cp', hcs, l, hl⟩ := row_u8 hf
  simp [Value.cells] at hcs
  obtain ⟨rfl, rfl, rfl⟩ := hcs
  have := hl.len
  rw [cells_length, Nat.mul_one] at this
  subst this
  exact ⟨A, cp, l, rfl, hl⟩
set_option maxRecDepth 100000 in
theorem arg_ints {v : Value} {d : DataW H} {p : List MemPlace} {r : Reach} {b0 : Nat} (hv : Value.okWide Try.prog w r b0 25 v) (h : DataW.Trod enc Try.prog w base (fun _ => true) held 25 v d p) :
    ∃ A cp, ∃ l : List Int, v = .slice A l.length cp ∧ Sl w 1 A l.length cp (icells l) ∧ ∀ z ∈ l, -9223372036854775808 ≤ z ∧ z < 9223372036854775808 := by
  obtain ⟨A, n, cp, rfl⟩ := okWide_slice Try.underlying25 hv
  obtain ⟨fuel, hf⟩ := h
  obtain ⟨A', n', cp', hcs, l, hl, hs, hb⟩ := row_int hf
  simp [Value.cells] at hcs
  obtain ⟨rfl, rfl, rfl⟩ := hcs
  subst hl
  exact ⟨A, cp, l, rfl, hs, hb⟩
set_option maxRecDepth 100000 in
theorem arg_int {v : Value} {d : DataW H} {p : List MemPlace} {r : Reach} {b0 : Nat} (hv : Value.okWide Try.prog w r b0 3 v) (h : DataW.Trod enc Try.prog w base (fun _ => true) held 3 v d p) :
    ∃ z : Int, v = .int .i64 z ∧ -9223372036854775808 ≤ z ∧ z < 9223372036854775808 := by
  obtain ⟨z, rfl, rfl, rfl, w0⟩ := open_int Try.underlying3 hv h
  exact ⟨z, rfl, by have := bounds_i64 w0; omega⟩
theorem cells_mat : Try.prog.cellsOf 24 = 3 := by kernel_rfl
set_option maxRecDepth 100000 in
theorem arg_mat {v : Value} {d : DataW H} {p : List MemPlace} {r : Reach} {b0 : Nat} (hv : Value.okWide Try.prog w r b0 24 v) (h : DataW.Trod enc Try.prog w base (fun _ => true) held 24 v d p) :
    ∃ (m : M3) (A : Option Addr) (cp : Nat), v = m.v A cp ∧ Sl w 1 A m.l.length cp (cells m.l) := by
  obtain ⟨c0, c1, c2, y0, y1, y2, m, rfl, rfl, rfl, hy0, hy1, hy2⟩ := Go.Joins.open_agg3 Try.underlying24 (by kernel_rfl) cells_mat hv h
  obtain ⟨x, e0, _, wx⟩ := DataW.trod_int Try.underlying3 hy0
  obtain ⟨y, e1, _, wy⟩ := DataW.trod_int Try.underlying3 hy1
  obtain ⟨A, n, cp, e2, l, hl⟩ := row_u8 hy2
  injection e0 with e0
  injection e1 with e1
  injection e2 with e2
  subst e0; subst e1; subst e2
  have := hl.len
  rw [cells_length, Nat.mul_one] at this
  subst this
  exact ⟨⟨x, y, l⟩, A, cp, rfl, hl⟩
end
end Go.Proofs.Ytccnoflgbopjlaa
