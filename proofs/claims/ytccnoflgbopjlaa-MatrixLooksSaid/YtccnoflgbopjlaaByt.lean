/-
  Bytes in memory, over this program's own types: what a call answers that makes bytes, append of bytes, make of noughts. No condition.
-/
import Derived.Test.YtccnoflgbopjlaaProg
import Derived.Test.YtccnoflgbopjlaaKit
import Derived.OwnWalk
namespace Go.Proofs.Ytccnoflgbopjlaa
open Go.RowKit
set_option linter.unusedVariables false

/-- What a call answers that makes bytes: a slice that reads as l; below block B nothing has turned. -/
def RetBytes (B : Nat) (w : World) (l : List UInt8) (e : Ending) (w' : World) : Prop := ∃ A n c, e = .returned (.slice A n c) ∧ Sl w' 1 A n c (cells l) ∧ Below B w w'

theorem info_u8 : (Try.prog.info? 5).map (fun i => (i.zero, i.size, i.bytes)) = some (some (.int .u8 0), 1, 1) := by kernel_rfl

section
variable {w : World} {B n c : Nat} {A : Option Addr} {xs : List Value}
theorem wpList_append_b {ops : Array Oper} {rest : List Oper} {o : Oper} {a : Act} {Q : Exit → Act → World → Prop} (hgd : o.guard = none) (s x : Operand)
    (ho : o.op = .call { callee := .builtin .append, args := #[s, x], argTypes := #[22, 22] })
    (hv : a.eval s = .slice A n c) (h : Own w B 5 1 A n c xs) (hB : B ≤ w.heap.size)
    (A2 : Option Addr) (m c2 : Nat) (ys : List UInt8) (hx : a.eval x = .slice A2 m c2) (hs : Sl w 1 A2 m c2 (cells ys)) (h47 : n + m ≤ 140737488355328)
    (hk : ∀ A' c' w', Own w' B 5 1 A' (n + m) c' (xs ++ cells ys) → Below B w w' → wpList Try.prog ops Q rest (a.put o.dst (.slice A' (n + m) c')) w') : wpList Try.prog ops Q (o :: rest) a w := by
  obtain ⟨i0, hi, hz0, hz1, hz2⟩ := info_parts info_u8
  exact wpList_append_any hgd s x _ _ ho i0 (.int .u8 0) 1 Try.underlying22 hi hz0 hz1 hz2 rfl (by decide) hv h hB m (cells ys) _ hx (hs.src Try.underlying22 (by decide) (cells_one ys)) (by unfold maxLen; omega) (by omega) hk
theorem wpList_append_s {ops : Array Oper} {rest : List Oper} {o : Oper} {a : Act} {Q : Exit → Act → World → Prop} (hgd : o.guard = none) (s x : Operand)
    (ho : o.op = .call { callee := .builtin .append, args := #[s, x], argTypes := #[22, 9] })
    (hv : a.eval s = .slice A n c) (h : Own w B 5 1 A n c xs) (hB : B ≤ w.heap.size)
    (t : ByteArray) (hx : a.eval x = .string t) (h47 : n + t.size ≤ 140737488355328)
    (hk : ∀ A' c' w', Own w' B 5 1 A' (n + t.size) c' (xs ++ cells t.data.toList) → Below B w w' → wpList Try.prog ops Q rest (a.put o.dst (.slice A' (n + t.size) c')) w') : wpList Try.prog ops Q (o :: rest) a w := by
  obtain ⟨i0, hi, hz0, hz1, hz2⟩ := info_parts info_u8
  exact wpList_append_any hgd s x _ _ ho i0 (.int .u8 0) 1 Try.underlying22 hi hz0 hz1 hz2 rfl (by decide) hv h hB t.size (cells t.data.toList) _ hx (Src.ofString w Try.underlying9 t) (by unfold maxLen; omega) (by omega) hk
end

theorem wpList_append_bm {w : World} {B n c : Nat} {A : Option Addr} {xs : List Value} {ops : Array Oper} {rest : List Oper} {o : Oper} {a : Act} {Q : Exit → Act → World → Prop} (hgd : o.guard = none) (s x : Operand)
    (ho : o.op = .call { callee := .builtin .append, args := #[s, x], argTypes := #[22, 22] })
    (hv : a.eval s = .slice A n c) (h : Own w B 5 1 A n c xs) (hB : B ≤ w.heap.size)
    (A2 : Option Addr) (m c2 : Nat) (ys : List UInt8) (hx : a.eval x = .slice A2 m c2) (hs : Sl w 1 A2 m c2 (cells ys)) (h47 : n + m ≤ 140737488355328)
    (hk : ∀ A' c' w', Own w' B 5 1 A' (n + m) c' (xs ++ cells ys) → Below B w w' → (0 < m → w'.ownsRow B 5 1 (.slice A' (n + m) c') (n + m) (xs ++ cells ys)) → wpList Try.prog ops Q rest (a.put o.dst (.slice A' (n + m) c')) w') : wpList Try.prog ops Q (o :: rest) a w := by
  obtain ⟨i0, hi, hz0, hz1, hz2⟩ := info_parts info_u8
  exact wpList_append_mine hgd s x _ _ ho i0 (.int .u8 0) 1 Try.underlying22 hi hz0 hz1 hz2 rfl (by decide) hv h hB m (cells ys) _ hx (hs.src Try.underlying22 (by decide) (cells_one ys)) (by unfold maxLen; omega) (by omega) hk

/-- What a call answers that makes bytes of its own, which may be written. -/
def RetMine (B : Nat) (w : World) (l : List UInt8) (e : Ending) (w' : World) : Prop := ∃ A n c, e = .returned (.slice A n c) ∧ Sl w' 1 A n c (cells l) ∧ Below B w w' ∧ Mine w' B 5 A n (cells l)
theorem RetMine.ret {B : Nat} {w : World} {l : List UInt8} {e : Ending} {w' : World} (h : RetMine B w l e w') : RetBytes B w l e w' := by
  obtain ⟨A, n, c, h1, h2, h3, _⟩ := h
  exact ⟨A, n, c, h1, h2, h3⟩

/-- make([]byte, z) for a number that is no greater than 2 to the 30. -/
theorem make_eq (z : Int) (k : Nat) (hz : z = (k : Int)) (hk : k ≤ 1073741824) (w : World) :
    (Instr.makeSlice 22 (.int .i64 z) (.int .i64 z)).run Try.prog w = .ok (.slice (some ⟨w.heap.size, 0, none⟩) k k) (w.alloc (.cells (madeCells #[.int .u8 0] k) 5)) := by
  obtain ⟨i0, hi, hz0, hz1, hz2⟩ := info_parts info_u8
  subst hz
  have h := run_make (P := Try.prog) w 22 5 i0 (.int .u8 0) Try.underlying22 hi hz0 .i64 .i64 (k : Int) (k : Int) (by omega) (by omega) (by rw [hz2]; omega) (by omega)
  rw [hz1, Nat.mul_one, Int.toNat_natCast] at h
  exact h
theorem Sl.noughts (w : World) (k : Nat) (hk : k ≤ maxLen) : Sl (w.alloc (.cells (madeCells #[.int .u8 0] k) 5)) 1 (some ⟨w.heap.size, 0, none⟩) k k (cells (List.replicate k 0)) := by
  have h := Sl.made w (madeCells #[.int .u8 0] k) 5 1 k (by rw [size_madeCells, Nat.mul_one]) hk
  rw [toList_madeCells_one] at h
  have e : cells (List.replicate k 0) = List.replicate k (Value.int .u8 0) := by rw [cells, List.map_replicate]; rfl
  rw [e]
  exact h
end Go.Proofs.Ytccnoflgbopjlaa
