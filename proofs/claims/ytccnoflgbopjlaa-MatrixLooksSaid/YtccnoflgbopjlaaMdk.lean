/-
  Contract of package matrix's Invert. Condition: the field is one that New made, or nil.
-/
import Derived.Test.YtccnoflgbopjlaaMdi
import Derived.Test.YtccnoflgbopjlaaMde
namespace Go.Proofs.Ytccnoflgbopjlaa
open Go.RowKit Go.Proofs
set_option linter.unusedVariables false

/-- Nothing, and why. -/
def NoMx (x : Int) : Value := .tuple #[.agg #[.int .i64 0, .int .i64 0, .slice none 0 0], .int .i64 x]
/-- The three stores of a result that is a matrix. -/
def box0 : Obj := .cells #[.int .i64 0, .int .i64 0, .slice none 0 0] 24

theorem box0_0 {w : World} {g : Nat} (h : w.heap[g]? = some box0) : w.cell? ⟨g, 0, none⟩ = some (.int .i64 0) := by rw [cell_of_row _ _ _ _ _ _ h]; rfl
theorem box0_1 {w : World} {g : Nat} (h : w.heap[g]? = some box0) : w.cell? ⟨g, 1, none⟩ = some (.int .i64 0) := by rw [cell_of_row _ _ _ _ _ _ h]; rfl
theorem box0_2 {w : World} {g : Nat} (h : w.heap[g]? = some box0) : w.cell? ⟨g, 2, none⟩ = some (.slice none 0 0) := by rw [cell_of_row _ _ _ _ _ _ h]; rfl
theorem box0_free {w : World} {g : Nat} (h : w.heap[g]? = some box0) (i : Nat) : w.frozen? ⟨g, i, none⟩ = false := frozen_of_row _ _ _ _ _ h

theorem alloc2_new (w : World) (o o' : Obj) : ((w.alloc o).alloc o').heap[w.heap.size + 1]? = some o' := by
  have := heap_alloc_new (w.alloc o) o'
  simpa using this
theorem alloc2_old (w : World) (o o' : Obj) : ((w.alloc o).alloc o').heap[w.heap.size]? = some o := (Below.heap_alloc _ _ _ (by simp)).trans (heap_alloc_new w _)
/-- Of a store into a result's box: what it holds behind it, and what has turned. -/
theorem box0_set {w : World} {g : Nat} {r c : Int} {A : Option Addr} {n cp : Nat} (h : w.heap[g]? = some box0) :
    (((w.setCell ⟨g, 0, none⟩ (.int .i64 r)).setCell ⟨g, 1, none⟩ (.int .i64 c)).setCell ⟨g, 2, none⟩ (.slice A n cp)).heap[g]? = some (boxM r c A n cp) := by
  have e0 := heap_setCell_same w g 0 _ _ (.int .i64 r) h
  have e1 := heap_setCell_same _ g 1 _ _ (.int .i64 c) e0
  have e2 := heap_setCell_same _ g 2 _ _ (.slice A n cp) e1
  exact e2
theorem box0_fr (w : World) (g : Nat) (r c : Int) (A : Option Addr) (n cp : Nat) :
    Fr (fun k => k = g) w (((w.setCell ⟨g, 0, none⟩ (.int .i64 r)).setCell ⟨g, 1, none⟩ (.int .i64 c)).setCell ⟨g, 2, none⟩ (.slice A n cp)) :=
  Fr.setCell (S := fun k => k = g) (Fr.setCell (S := fun k => k = g) (Fr.setCell (S := fun k => k = g) (Fr.refl _ _) (.inr rfl) _) (.inr rfl) _) (.inr rfl) _
theorem Grow.frG {w w' : World} {B k c g : Nat} {A : Option Addr} {l : List UInt8} (h : Grow w B A k c l) (hf : Fr (fun k => k = g) w w') (hg : g < B) : Grow w' B A k c l := by
  have hrow : 0 < k → w'.ownsRow B 5 1 (.slice A k c) k (cells l) := fun h0 => by
    obtain ⟨hl, hv⟩ := h.row h0
    refine ⟨hl, ?_⟩
    rcases hv with hv | ⟨g', cap, cur, hv, hb, hh, r⟩
    · exact .inl hv
    · exact .inr ⟨g', cap, cur, hv, hb, hf.row_some hh (by omega), r⟩
  refine ⟨⟨?_, ?_⟩, hrow⟩
  · refine h.own.sl.fr hf fun b o hn hA hb => ?_
    obtain ⟨_, hv⟩ := h.row hn
    rcases hv with ⟨_, hv0⟩ | ⟨g', cap, cur, hv, hb', _⟩
    · omega
    · injection hv with hv
      rw [hA] at hv
      injection hv with hv
      injection hv with hv _
      omega
  · rcases h.own.own with h1 | ⟨hl, hv⟩
    · exact .inl h1
    · rcases hv with hv | ⟨g', cap, cur, hv, hb, hh, r⟩
      · exact .inr ⟨hl, .inl hv⟩
      · exact .inr ⟨hl, .inr ⟨g', cap, cur, hv, hb, hf.row_some hh (by omega), r⟩⟩

set_option maxRecDepth 20000 in
set_option maxHeartbeats 800000 in
theorem invert_nil (r c : Int) (A : Option Addr) (n cp : Nat) (w : World) :
    Calls Try.prog 23 #[.pointer none, .agg #[.int .i64 r, .int .i64 c, .slice A n cp]] w fun e w' => e = .returned (NoMx 1) ∧ Below w.heap.size w w' := by
  go_enter Try.func23, Try.ntmps23
  go_wp2_with fail
  refine (mmadenil_any _).mono ?_; rintro e w1 ⟨rfl, rfl⟩
  go_wp2_with fail
  have hx := alloc2_new w (boxM r c A n cp) box0
  refine bodyPost_ret (results_cell_pair Try.results23 _ _ (w.heap.size + 1) 24 _ (0, 0) _ rfl hx Try.underlying24 rfl size_matrix) rfl ?_
  exact ⟨rfl, ((Below.refl _ _).alloc (Nat.le_refl _) _).alloc (by simp) _⟩
end Go.Proofs.Ytccnoflgbopjlaa
