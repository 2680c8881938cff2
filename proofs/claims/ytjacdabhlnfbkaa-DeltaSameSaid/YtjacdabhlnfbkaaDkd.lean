/-
  Integers that grow by append; the contract of the document's There of layer 6. No condition but bounds.
-/
import Derived.Test.YtjacdabhlnfbkaaCaa
namespace Go.Proofs.Ytjacdabhlnfbkaa
open Go.RowKit Go.Proofs
set_option linter.unusedVariables false

/-- Numbers as cells. -/
def ncells (l : List Nat) : List Value := l.map fun (n : Nat) => Value.int .i64 (n : Int)
theorem ncells_length (l : List Nat) : (ncells l).length = l.length := by simp [ncells]
theorem ncells_append (l k : List Nat) : ncells (l ++ k) = ncells l ++ ncells k := by simp [ncells]
theorem ncells_get (l : List Nat) (j : Nat) (h : j < l.length) : (ncells l)[j]? = some (.int .i64 (l[j] : Int)) := by simp [ncells, h]
theorem ncells_one (l : List Nat) : ∀ u ∈ ncells l, u.oneCell' = true := by
  intro u hu
  obtain ⟨_, _, rfl⟩ := List.mem_map.1 hu
  rfl
theorem info_i : (Try.prog.info? 3).map (fun i => (i.zero, i.size, i.bytes)) = some (some (.int .i64 0), 1, 8) := by kernel_rfl
theorem wpList_append_i {w : World} {B n c : Nat} {A : Option Addr} {xs : List Value} {ops : Array Oper} {rest : List Oper} {o : Oper} {a : Act} {Q : Exit → Act → World → Prop} (hgd : o.guard = none) (s x : Operand)
    (ho : o.op = .call { callee := .builtin .append, args := #[s, x], argTypes := #[41, 41] })
    (hv : a.eval s = .slice A n c) (h : Own w B 3 1 A n c xs) (hB : B ≤ w.heap.size)
    (A2 : Option Addr) (m c2 : Nat) (ys : List Nat) (hx : a.eval x = .slice A2 m c2) (hs : Sl w 1 A2 m c2 (ncells ys)) (h40 : n + m ≤ 17592186044416)
    (hk : ∀ A' c' w', Own w' B 3 1 A' (n + m) c' (xs ++ ncells ys) → Below B w w' → (0 < m → w'.ownsRow B 3 1 (.slice A' (n + m) c') (n + m) (xs ++ ncells ys)) → wpList Try.prog ops Q rest (a.put o.dst (.slice A' (n + m) c')) w') : wpList Try.prog ops Q (o :: rest) a w := by
  obtain ⟨i0, hi, hz0, hz1, hz2⟩ := info_parts info_i
  exact wpList_append_mine hgd s x _ _ ho i0 (.int .i64 0) 8 Try.underlying41 hi hz0 hz1 hz2 rfl (by decide) hv h hB m (ncells ys) _ hx (hs.src Try.underlying41 (by decide) (ncells_one ys)) (by unfold maxLen; omega) (by omega) hk
theorem Sl.oneN (w : World) (t : TypeId) (n : Nat) (z : Int) (h : z = (n : Int)) : Sl (w.alloc (.cells #[.int .i64 z] t)) 1 (some ⟨w.heap.size, 0, none⟩) 1 1 (ncells [n]) := by
  subst h
  exact Sl.made w #[.int .i64 (n : Int)] t 1 1 rfl (by decide)

/-- The numbers of the rows that have bytes, of the first j. -/
def thereL (rs : List (List UInt8)) (j : Nat) : List Nat := (List.range j).filter fun i => decide (0 < (rs.getD i []).length)
theorem thereL_next (rs : List (List UInt8)) (j : Nat) : thereL rs (j + 1) = if 0 < (rs.getD j []).length then thereL rs j ++ [j] else thereL rs j := by
  rw [thereL, thereL, List.range_succ, List.filter_append]
  by_cases h : 0 < (rs.getD j []).length
  · rw [if_pos h, List.filter_cons_of_pos (by simpa using h)]
    rfl
  · rw [if_neg h, List.filter_cons_of_neg (by simpa using h)]
    simp
theorem thereL_le (rs : List (List UInt8)) (j : Nat) : (thereL rs j).length ≤ j := by
  have := List.length_filter_le (fun i => decide (0 < (rs.getD i []).length)) (List.range j)
  rwa [List.length_range] at this

end Go.Proofs.Ytjacdabhlnfbkaa
