/-
  Words for layer 16's laws: the base in a variable, a scroll that was put and where it lies. Conditions: none. No walk.
-/
import Derived.Test.YtokbhgbajdomnaaGreatDoorEii
import Derived.Test.YtokbhgbajdomnaaGreatDoorEig
set_option linter.unusedVariables false
namespace Go.Proofs.YtokbhgbajdomnaaGreatDoor
open Go.RowKit Go.Proofs
def Bs16 (w : World) (B : Nat) (k m f c : Int) : Prop := w.heap[B]? = some (.cells #[.int .i64 k, .int .i64 m, .int .i64 f, .int .i64 c] 23 (0, 0))
section
variable {w w' : World} {B : Nat} {k m f c : Int}
theorem Bs16.c0 (h : Bs16 w B k m f c) : w.cell? ⟨B, 0, none⟩ = some (.int .i64 k) := by rw [cell_of_row _ _ _ _ _ _ h]; rfl
theorem Bs16.c1 (h : Bs16 w B k m f c) : w.cell? ⟨B, 1, none⟩ = some (.int .i64 m) := by rw [cell_of_row _ _ _ _ _ _ h]; rfl
theorem Bs16.c3 (h : Bs16 w B k m f c) : w.cell? ⟨B, 3, none⟩ = some (.int .i64 c) := by rw [cell_of_row _ _ _ _ _ _ h]; rfl
theorem Bs16.later (h : Bs16 w B k m f c) {n : Nat} (hn : B < n) (hb : Below n w w') : Bs16 w' B k m f c := (hb.block _ hn).trans h
theorem size_bs16 (k m f c : Int) : (Tryz.prog.info? 23).map (·.size) = some (#[Value.int .i64 k, .int .i64 m, .int .i64 f, .int .i64 c] : Array Value).size := by
 show _ = some 4
 kernel_rfl
theorem step_bs16 {ρ : Operand → Value} {o : Oper} {x : Operand} (ho : o.op = .load 23 x) (hx : ρ x = .pointer (some ⟨B, 0, none⟩)) (h : Bs16 w B k m f c) : (execOp ρ o).run Tryz.prog w = .ok (.value (.agg #[.int .i64 k, .int .i64 m, .int .i64 f, .int .i64 c])) w := by
 unfold execOp
 simp only [ho, hx, Instr.loadAt, Instr.sureAddr, Sem.run_bind, Sem.run_pure, Result.andThen_ok, run_loadVar_row w B 23 23 _ (0, 0) _ h Tryz.underlying23 rfl (size_bs16 k m f c)]
theorem step_sub16 {ρ : Operand → Value} {o : Oper} {x y : Operand} {a b c : Int} {t u : TypeId} (ho : o.op = .binOp .sub t x y u) (hx : ρ x = .int .i64 a) (hy : ρ y = .int .i64 b) (hw : IntKind.i64.wrap (a - b) = c) : (execOp ρ o).run Tryz.prog w = .ok (.value (.int .i64 c)) w := by
 subst hw
 unfold execOp
 simp [ho, hx, hy, go_sem]
theorem bs16_below (w : World) (k m f c : Int) : Below w.heap.size w (w.alloc (.cells #[.int .i64 k, .int .i64 m, .int .i64 f, .int .i64 c] 23)) := (Below.refl _ _).alloc (Nat.le_refl _) _
end
structure Ro16 (w : World) (S U : Nat → Prop) (Y bb : Nat) (a g : Int) (n : Nat) (z : Int) (ps : List Nat) : Prop where
 y : Sc16 w Y a g n z
 r : Rw w bb 3 1 n n (ncells ps)
 oy : ¬ S Y ∧ ¬ U Y
 ob : ¬ S bb ∧ ¬ U bb
section
variable {w w' : World} {S S' U : Nat → Prop} {Y bb n : Nat} {a g z : Int} {ps : List Nat}
theorem Ro16.later (h : Ro16 w S U Y bb a g n z ps) (hb : Below w.heap.size w w') : Ro16 w' S U Y bb a g n z ps := ⟨h.y.later hb, h.r.later hb, h.oy, h.ob⟩
theorem Ro16.mut (h : Ro16 w S U Y bb a g n z ps) (hf : Fr (fun x => S x ∨ U x) w w') (hS : ∀ x, S' x → S x ∨ w.heap.size ≤ x) : Ro16 w' S' U Y bb a g n z ps :=
 ⟨h.y.fr hf (fun q => q.elim h.oy.1 h.oy.2), h.r.fr hf (fun q => q.elim h.ob.1 h.ob.2), ⟨fun q => (hS _ q).elim h.oy.1 (fun q => by have := block_lt h.y; omega), h.oy.2⟩, ⟨fun q => (hS _ q).elim h.ob.1 (fun q => by have := h.r.lt; omega), h.ob.2⟩⟩
theorem Ro16.nxt (h : Ro16 w S U Y bb a g n z ps) (hX : Nxt S S' w w') : Ro16 w' S' U Y bb a g n z ps := h.mut (hX.1.mono fun x hx => .inl hx) hX.2
theorem Ro16.new {A C k m F T N P : Nat} {Rep : World → (Nat → Prop) → Nat → Dv → Prop} {w0 : World} {xs : List Dv} {p : Ps} (DK : DrvK Rep) (h : Lc15 Rep w0 w S A C k m F T N xs U P p) (hr : Rw w bb 3 1 n n (ncells ps)) (h1 : ¬ S bb) (h2 : ¬ U bb) :
  Ro16 (w.alloc (.cells #[.int .i64 a, .int .u64 g, .int .i64 (n : Int), .int .i64 z] 38)) S U w.heap.size bb a g n z ps ∧ Below w.heap.size w (w.alloc (.cells #[.int .i64 a, .int .u64 g, .int .i64 (n : Int), .int .i64 z] 38)) := by
 have hb : Below w.heap.size w (w.alloc (.cells #[.int .i64 a, .int .u64 g, .int .i64 (n : Int), .int .i64 z] 38)) := (Below.refl _ _).alloc (Nat.le_refl _) _
 have hf := h.fresh (b := w.heap.size) (Nat.le_refl _)
 exact ⟨⟨Sc16.new, hr.later hb, ⟨hf.1, hf.2.1⟩, ⟨h1, h2⟩⟩, hb⟩
end
theorem ncells_at16 {l : List Nat} {i : Nat} (h : i < l.length) : (ncells l)[i]? = some (.int .i64 ((l.getD i 0 : Nat) : Int)) := by
 rw [ncells, List.getElem?_map, List.getElem?_eq_getElem h, List.getD_eq_getElem?_getD, List.getElem?_eq_getElem h]
 rfl
theorem placesL_mem16 {p : Ps} {l : List Nat} {x : Nat} (h : x ∈ placesL p l) : ∃ j, j ∈ l ∧ x = p.a + j := by
 rw [placesL, List.mem_map] at h
 obtain ⟨j, hj, e⟩ := h
 exact ⟨j, hj, e.symm⟩
theorem flushS_ns16 {xs : List Dv} {n N : Nat} (h : ∀ (d : Nat) (x : Dv), xs[d]? = some x → x.Ok ∧ x.n = N) : ∀ (d : Nat) (x : Dv), (flushS xs n)[d]? = some x → x.Ok ∧ x.n = N := fun d x hx => by
 have hd := get_lt hx
 rw [flushS, upTo_len] at hd
 have hy : xs[d]? = some (xs[d]) := List.getElem?_eq_getElem hd
 obtain ⟨h1, h2⟩ := h d _ hy
 rw [flushS, upTo_at hy] at hx
 injection hx with hx
 rw [← hx]
 split
 ·unfold Dv.flush1
  split
  ·exact ⟨h1, h2⟩
  ·exact ⟨h1.flush, by rw [Dv.flush_n]; exact h2⟩
 ·exact ⟨h1, h2⟩
theorem cnt16 {f c : Nat} : cntL c (newP f c).f = 0 := by
 unfold cntL plc
 rw [List.filter_eq_nil_iff.2 (fun i _ => by simp [newP])]
 rfl
end Go.Proofs.YtokbhgbajdomnaaGreatDoor
