/-
  Contracts of package crc's ofBits, at both functions that are handed in to it. Condition: the table reads as the row lists it ('Nt').
-/
import Derived.Test.YtpmjpagmddjjaaaDoorCrcb
namespace Go.Proofs.YtpmjpagmddjjaaaDoor
open Go.RowKit
set_option linter.unusedVariables false

/-- Behind k rounds: the answer's row is still empty, k words are made. -/
structure Made (W : World) (F : Nat → W32) (k : Nat) (wr : World) : Prop where
  below : Below W.heap.size W wr
  old : wr.heap[W.heap.size]? = some (.cells (arr fun _ => 0) 41 (0, 0))
  row : wr.heap[W.heap.size + 1]? = some (.cells (arr fun i => if i < k then F i else 0) 41 (0, 0))

section
variable {W wr w1 : World} {F : Nat → W32} {k : Nat}
theorem Made.start (W : World) (F : Nat → W32) : Made W F 0 ((W.alloc (.cells (arr fun _ => 0) 41)).alloc (.cells (arr fun _ => 0) 41)) :=
  ⟨((Below.refl _ _).alloc (Nat.le_refl _) _).alloc (by simp) _, heap_alloc2_old W _ _, heap_alloc2_new W _ _⟩
theorem Made.below' (h : Made W F k wr) (hb : Below wr.heap.size wr w1) : Made W F k w1 :=
  ⟨h.below.trans (hb.mono h.below.size), row_below h.old hb, row_below h.row hb⟩
theorem Made.cell (h : Made W F k wr) (j : Nat) (hj : j < 32) : wr.cell? ⟨W.heap.size + 1, j, none⟩ = some (.int .u32 ((if j < k then F j else 0 : W32).toNat : Int)) := by
  rw [cell_of_row _ _ j _ _ _ h.row, arr_get _ j hj]
theorem Made.frozen (h : Made W F k wr) (j : Nat) : wr.frozen? ⟨W.heap.size + 1, j, none⟩ = false := frozen_of_row _ _ j _ _ h.row
theorem Made.next (h : Made W F k wr) (hk : k < 32) {x : W32} (hx : x = F k) : Made W F (k + 1) (wr.setCell ⟨W.heap.size + 1, k, none⟩ (.int .u32 (x.toNat : Int))) := by
  refine ⟨h.below.setCell (by simp) _, ?_, ?_⟩
  · rw [heap_setCell_other _ _ _ _ (by simp)]
    exact h.old
  · rw [heap_setCell_same _ _ _ _ _ _ h.row, arr_set _ _ _ hk, hx]
    congr 2
    apply arr_congr
    intro i hi
    show (if i = k then F k else if i < k then F i else 0) = _
    by_cases h1 : i = k
    · subst h1
      simp
    · by_cases h2 : i < k
      · simp [h1, h2, show i < k + 1 by omega]
      · simp [h1, h2, show ¬ i < k + 1 by omega]
theorem Made.whole (h : Made W F 32 wr) : wr.heap[W.heap.size + 1]? = some (.cells (arr F) 41 (0, 0)) := by
  rw [h.row, arr_congr (m := fun i => if i < 32 then F i else 0) (m' := F) (fun i hi => if_pos hi)]
theorem Made.done (h : Made W F k wr) (cs : Array Value) : Below W.heap.size W (wr.setRow W.heap.size cs) := by
  refine h.below.trans ⟨rfl, rfl, rfl, by simp, fun i hi => setRow_other wr _ i cs (by omega)⟩
end

set_option maxHeartbeats 400000 in
set_option maxRecDepth 20000 in
theorem ofBits_nought (w : World) (h : Nt w) :
    Calls Tryd.prog 29 #[.func (.func 27) #[] #[]] w fun e w' => e = .returned (.agg (arr fun i => (b8) (unit i))) ∧ Below w.heap.size w w' := by
  have H := Lib.hid h; clear h
  go_enter Tryd.func29, Tryd.ntmps29
  go_wp2_with fail
  go_loopw [4, 5] (fun b i wr => ∃ k : Nat, k ≤ 32 ∧ i = .int .i64 (k : Int) ∧ Made w (fun i => (b8) (unit i)) k wr) (fun _ i _ => 32 - (intOf i).toNat)
  case atStart => exact ⟨0, by omega, rfl, Made.start w _⟩
  case round =>
    obtain ⟨k, hk, rfl, hm⟩ := hrel
    have Hm := Lib.hid hm; clear hm
    by_cases hlt : k < 32
    · go_wp2_with fail
      refine (behind1_at _ (unit k) (unit_z k hlt) _ (H.out.keep Hm.out.below)).mono ?_; rintro e w1 ⟨rfl, hb1⟩
      have hm1 := Hm.out.below' hb1
      have hcell := hm1.cell k hlt
      have hfz := hm1.frozen k
      have Hm1 := Lib.hid hm1; clear hm1
      go_wp2_with fail
      go_roundw
      case rel => exact ⟨k + 1, by omega, by go_num, Hm1.out.next hlt rfl⟩
      case measure => simp [intOf]; omega
    · obtain rfl : k = 32 := by omega
      go_wp2_with (first | (refine wpList_load_row (o := ⟨some 15, _, _, _, _, _⟩) rfl 41 (.tmp 3) rfl (w.heap.size + 1) rfl 41 (arr fun i => (b8) (unit i)) (0, 0) _ Hm.out.whole Tryd.underlying41 rfl (size_arr _) ?_) | (refine wpList_store_row (o := ⟨none, _, _, _, _, _⟩) rfl 41 (.tmp 2) (.tmp 15) rfl w.heap.size (arr fun i => (b8) (unit i)) rfl rfl 41 (arr fun _ => 0) Hm.out.old (size_arr _) (by rw [arr_size, arr_size]) (arr_one _) ?_))
      refine bodyPost_ret (v := .agg (arr fun i => (b8) (unit i))) (results_cell_row Tryd.results29 _ _ w.heap.size 41 _ (0, 0) _ rfl (setRow_heap _ _ _ _ _ _ Hm.out.old) Tryd.underlying41 rfl (size_arr _)) rfl ⟨rfl, Hm.out.done _⟩

set_option maxHeartbeats 400000 in
set_option maxRecDepth 20000 in
theorem ofBits_twice (m : Nat → W32) (b : Nat) (t : TypeId) (fr : Nat × Nat) (w : World) (h : w.heap[b]? = some (.cells (arr m) t fr)) :
    Calls Tryd.prog 29 #[.func (.func 30) #[] #[.pointer (some ⟨b, 0, none⟩)]] w fun e w' => e = .returned (.agg (arr fun i => (fun x => tog m 32 (tog m 32 x)) (unit i))) ∧ Below w.heap.size w w' := by
  have H := Lib.hid h; clear h
  go_enter Tryd.func29, Tryd.ntmps29
  go_wp2_with fail
  go_loopw [4, 5] (fun b i wr => ∃ k : Nat, k ≤ 32 ∧ i = .int .i64 (k : Int) ∧ Made w (fun i => (fun x => tog m 32 (tog m 32 x)) (unit i)) k wr) (fun _ i _ => 32 - (intOf i).toNat)
  case atStart => exact ⟨0, by omega, rfl, Made.start w _⟩
  case round =>
    obtain ⟨k, hk, rfl, hm⟩ := hrel
    have Hm := Lib.hid hm; clear hm
    by_cases hlt : k < 32
    · go_wp2_with fail
      refine (times1_at m b t fr _ (unit k) (unit_z k hlt) _ (row_below H.out Hm.out.below)).mono ?_; rintro e w1 ⟨rfl, hb1⟩
      have hm1 := Hm.out.below' hb1
      have hcell := hm1.cell k hlt
      have hfz := hm1.frozen k
      have Hm1 := Lib.hid hm1; clear hm1
      go_wp2_with fail
      go_roundw
      case rel => exact ⟨k + 1, by omega, by go_num, Hm1.out.next hlt rfl⟩
      case measure => simp [intOf]; omega
    · obtain rfl : k = 32 := by omega
      go_wp2_with (first | (refine wpList_load_row (o := ⟨some 15, _, _, _, _, _⟩) rfl 41 (.tmp 3) rfl (w.heap.size + 1) rfl 41 (arr fun i => (fun x => tog m 32 (tog m 32 x)) (unit i)) (0, 0) _ Hm.out.whole Tryd.underlying41 rfl (size_arr _) ?_) | (refine wpList_store_row (o := ⟨none, _, _, _, _, _⟩) rfl 41 (.tmp 2) (.tmp 15) rfl w.heap.size (arr fun i => (fun x => tog m 32 (tog m 32 x)) (unit i)) rfl rfl 41 (arr fun _ => 0) Hm.out.old (size_arr _) (by rw [arr_size, arr_size]) (arr_one _) ?_))
      refine bodyPost_ret (v := .agg (arr fun i => (fun x => tog m 32 (tog m 32 x)) (unit i))) (results_cell_row Tryd.results29 _ _ w.heap.size 41 _ (0, 0) _ rfl (setRow_heap _ _ _ _ _ _ Hm.out.old) Tryd.underlying41 rfl (size_arr _)) rfl ⟨rfl, Hm.out.done _⟩
end Go.Proofs.YtpmjpagmddjjaaaDoor
