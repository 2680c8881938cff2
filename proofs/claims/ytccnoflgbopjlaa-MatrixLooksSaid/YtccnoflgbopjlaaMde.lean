/-
  Contracts of package matrix's Identity, At. No condition.
-/
import Derived.Test.YtccnoflgbopjlaaMdc
namespace Go.Proofs.Ytccnoflgbopjlaa
open Go.RowKit Go.Proofs
set_option linter.unusedVariables false

theorem enters_unit : ∀ args w, (callFunc 36 args).run Try.prog w = .ok (.enter 36 args) w := enters_of Try.func36 (by kernel_rfl) rfl
theorem tells_unit (N : Nat) (w : World) : Tells 36 #[] N N one w := fun W i j _ _ _ => (unit_any i j W).mono fun e w' ⟨h, k⟩ => ⟨h, by rw [k]; exact Below.refl _ _⟩

set_option maxRecDepth 20000 in
set_option maxHeartbeats 800000 in
theorem identity_no (n : Int) (h : n < 1 ∨ 255 < n) (w : World) :
    Calls Try.prog 18 #[.int .i64 n] w fun e w' => e = .returned (.tuple #[.agg #[.int .i64 0, .int .i64 0, .slice none 0 0], .int .i64 2]) ∧ Below w.heap.size w w' := by
  go_enter Try.func18, Try.ntmps18
  go_wp2_with fail
  refine (fits_no n h _).mono ?_; rintro e w1 ⟨rfl, rfl⟩
  go_wp2_with fail
  refine bodyPost_ret (results_cell_pair Try.results18 _ _ w.heap.size 24 _ (0, 0) _ rfl (heap_alloc_new w _) Try.underlying24 rfl size_matrix) rfl ?_
  exact ⟨rfl, (Below.refl _ _).alloc (Nat.le_refl _) _⟩

/-- What a call answers that makes a matrix, with OK. -/
def RetOk (R C : Nat) (l : List UInt8) (w : World) (e : Ending) (w' : World) : Prop := ∃ A c, e = .returned (.tuple #[.agg #[.int .i64 (R : Int), .int .i64 (C : Int), .slice A (R * C) c], .int .i64 0]) ∧ Grow w' w.heap.size A (R * C) c l

set_option maxRecDepth 20000 in
set_option maxHeartbeats 800000 in
theorem identity_yes (N : Nat) (h1 : 1 ≤ N) (h2 : N ≤ 255) (w : World) :
    Calls Try.prog 18 #[.int .i64 (N : Int)] w fun e w' => RetOk N N (tabL N N one) w e w' ∧ Below w.heap.size w w' := by
  go_enter Try.func18, Try.ntmps18
  go_wp2_with fail
  refine (fits_yes (N : Int) (by omega) (by omega) _).mono ?_; rintro e w1 ⟨rfl, rfl⟩
  go_wp2_with fail
  refine (build_any N N h2 h2 _ enters_unit #[] one _ (tells_unit N _)).mono ?_
  rintro e w2 ⟨v, rfl, ⟨A, c, rfl, hg⟩, hb⟩
  have hr0 : w2.heap[w.heap.size]? = some (.cells #[.int .i64 0, .int .i64 0, .slice none 0 0] 24 (0, 0)) := (hb.block _ (by simp)).trans (heap_alloc_new w _)
  have r0 : w2.cell? ⟨w.heap.size, 0, none⟩ = some (.int .i64 0) := by rw [cell_of_row _ _ _ _ _ _ hr0]; rfl
  have r1 : w2.cell? ⟨w.heap.size, 1, none⟩ = some (.int .i64 0) := by rw [cell_of_row _ _ _ _ _ _ hr0]; rfl
  have r2 : w2.cell? ⟨w.heap.size, 2, none⟩ = some (.slice none 0 0) := by rw [cell_of_row _ _ _ _ _ _ hr0]; rfl
  have y0 : w2.frozen? ⟨w.heap.size, 0, none⟩ = false := frozen_of_row _ _ _ _ _ hr0
  have y1 : w2.frozen? ⟨w.heap.size, 1, none⟩ = false := frozen_of_row _ _ _ _ _ hr0
  have y2 : w2.frozen? ⟨w.heap.size, 2, none⟩ = false := frozen_of_row _ _ _ _ _ hr0
  have Hg := Lib.hid hg; clear hg
  go_wp2_with fail
  have e0 := heap_setCell_same w2 w.heap.size 0 _ _ (.int .i64 (N : Int)) hr0
  have e1 := heap_setCell_same _ w.heap.size 1 _ _ (.int .i64 (N : Int)) e0
  have e2 := heap_setCell_same _ w.heap.size 2 _ _ (.slice A (N * N) c) e1
  refine bodyPost_ret (results_cell_pair Try.results18 _ _ w.heap.size 24 _ (0, 0) _ rfl e2 Try.underlying24 rfl size_matrix) rfl ?_
  have hs := ((Hg.out.set (p := ⟨w.heap.size, 0, none⟩) (by simp) (.int .i64 (N : Int))).set (p := ⟨w.heap.size, 1, none⟩) (by simp) (.int .i64 (N : Int))).set (p := ⟨w.heap.size, 2, none⟩) (by simp) (.slice A (N * N) c)
  exact ⟨⟨A, c, rfl, hs.lower (by simp)⟩, ((((((Below.refl _ _).alloc (Nat.le_refl _) _).trans (hb.mono (by simp))).setCell (Nat.le_refl _) _).setCell (Nat.le_refl _) _).setCell (Nat.le_refl _) _)⟩
end Go.Proofs.Ytccnoflgbopjlaa
