/-
  Arrays of 32 words as values; contracts of package crc's together, ofBits, and of the functions that are handed in. Condition: the table reads as the row lists it ('Nt').
-/
import Derived.Test.YtpmjpagmddjjaaaDoorCrca
import Derived.Deep.WholeRow
import Derived.Deep.RegionHeld3
namespace Go.Proofs.YtpmjpagmddjjaaaDoor
open Go.RowKit
set_option linter.unusedVariables false

/-- 32 words as the cells of an array. -/
def arr (m : Nat → W32) : Array Value := ((List.range 32).map fun i => Value.int .u32 ((m i).toNat : Int)).toArray
theorem arr_size (m : Nat → W32) : (arr m).size = 32 := by simp [arr]
theorem arr_get (m : Nat → W32) (i : Nat) (h : i < 32) : (arr m)[i]? = some (.int .u32 ((m i).toNat : Int)) := by simp [arr, h]
theorem arr_one (m : Nat → W32) : (arr m).all (·.oneCell') = true := by
  rw [Array.all_eq_true_iff_forall_mem]
  intro v hv
  simp only [arr, List.mem_toArray, List.mem_map] at hv
  obtain ⟨_, _, rfl⟩ := hv
  rfl
theorem arr_congr {m m' : Nat → W32} (h : ∀ i, i < 32 → m i = m' i) : arr m = arr m' := by
  unfold arr
  congr 1
  apply List.map_congr_left
  intro i hi
  rw [h i (by simpa using hi)]
theorem arr_set (m : Nat → W32) (k : Nat) (x : W32) (h : k < 32) : (arr m).setIfInBounds k (.int .u32 (x.toNat : Int)) = arr fun i => if i = k then x else m i := by
  apply Array.ext
  · simp [arr]
  · intro i h1 h2
    rw [arr_size] at h2
    by_cases hk : k = i
    · subst hk
      simp [arr]
    · have hk' : ¬ i = k := fun e => hk e.symm
      simp [arr, hk, hk']
theorem size_arr (m : Nat → W32) : (Tryd.prog.info? 41).map (·.size) = some (arr m).size := by
  rw [arr_size]
  kernel_rfl
theorem arr_nt : (nt.map fun z => Value.int .u32 z).toArray = arr ntw := by
  unfold arr
  congr 1
theorem Nt.row {w : World} (h : Nt w) : ∃ t fr, w.heap[0]? = some (.cells (arr ntw) t fr) := by
  rw [← arr_nt]
  exact h.block
theorem run_index_arr (m : Nat → W32) (k : Nat) (h : k < 32) (w : World) : (Instr.index 41 (.agg (arr m)) (.int .i64 (k : Int))).run Tryd.prog w = .ok (.int .u32 ((m k).toNat : Int)) w := by
  have hs : (sizeOf 23).run Tryd.prog w = .ok 1 w := by kernel_rfl
  simp [Instr.index, asIntOf, run_underlying Tryd.underlying41, hs, part, arr_get m k h, Nat.not_le.2 h]

set_option maxHeartbeats 400000 in
set_option maxRecDepth 20000 in
theorem together_any (m : Nat → W32) (c : W32) (w : World) :
    Calls Tryd.prog 28 #[.agg (arr m), .int .u32 (c.toNat : Int)] w fun e w' => e = .returned (.int .u32 ((tog m 32 c).toNat : Int)) ∧ Below w.heap.size w w' := by
  go_enter Tryd.func28, Tryd.ntmps28
  go_wp2_with (refine wpList_load_row (o := ⟨some 8, _, _, _, _, _⟩) rfl 41 (.tmp 2) rfl w.heap.size rfl 41 (arr m) (0, 0) _ (heap_alloc_last w _) Tryd.underlying41 rfl (size_arr m) ?_)
  go_loopw [5, 6, 7, 9] (fun v u x i wr => ∃ (k : Nat) (y : W32), y = tog m k c ∧ k ≤ 32 ∧ i = .int .i64 (k : Int) ∧ v = .int .u32 (y.toNat : Int) ∧ Below w.heap.size w wr) (fun _ _ _ i _ => 32 - (intOf i).toNat)
  case atStart => exact ⟨0, 0, rfl, by omega, rfl, rfl, (Below.refl _ _).alloc (Nat.le_refl _) _⟩
  case round =>
    obtain ⟨k, y, hy, hk, rfl, rfl, hb⟩ := hrel
    have Hy := Lib.hid hy; clear hy
    by_cases hlt : k < 32
    · have hix := run_index_arr m k hlt
      go_wp2_with fail
      go_roundw
      case rel => exact ⟨k + 1, y ^^^ (if c.getLsbD k then m k else 0), by rw [Hy.out, tog], by omega, by go_num, by rw [fold_w], hb⟩
      case measure => simp [intOf]; omega
    · go_wp2_with fail
      go_ret
      obtain rfl : k = 32 := by omega
      exact ⟨ret_w Hy.out, hb⟩

set_option maxHeartbeats 400000 in
set_option maxRecDepth 20000 in
theorem behind1_any (c : W32) (w : World) (h : Nt w) :
    Calls Tryd.prog 27 #[.int .u32 (c.toNat : Int)] w fun e w' => e = .returned (.int .u32 ((b8 c).toNat : Int)) ∧ Below w.heap.size w w' := by
  obtain ⟨t, fr, hrow⟩ := h.row
  have Hr := Lib.hid hrow; clear hrow
  go_enter Tryd.func27, Tryd.ntmps27
  go_wp2_with (refine wpList_load_row (o := ⟨some 3, _, _, _, _, _⟩) rfl 41 (.global 0) rfl 0 rfl t (arr ntw) fr _ Hr.out Tryd.underlying41 rfl (size_arr ntw) ?_)
  refine (together_any ntw c _).mono ?_; rintro e w1 ⟨rfl, hb⟩
  go_wp2_with fail
  go_ret
  exact ⟨ret_w (b8_whole c), hb⟩

theorem step_load_row {ρ : Operand → Value} {o : Oper} {x : Operand} {w : World} {b : Nat} {t : TypeId} {c : Array Value} {fr : Nat × Nat} (ho : o.op = .load 41 x) (hx : ρ x = .pointer (some ⟨b, 0, none⟩))
    (h : w.heap[b]? = some (.cells c t fr)) (hi : (Tryd.prog.info? 41).map (·.size) = some c.size) : (execOp ρ o).run Tryd.prog w = .ok (.value (.agg c)) w := by
  unfold execOp
  simp only [ho, hx, Instr.loadAt, Instr.sureAddr, Sem.run_bind, Sem.run_pure, Result.andThen_ok, run_loadVar_row w b t 41 c fr _ h Tryd.underlying41 rfl hi]
theorem row_below {w w' : World} {b : Nat} {c : Array Value} {t : TypeId} {fr : Nat × Nat} (h : w.heap[b]? = some (.cells c t fr)) (hb : Below w.heap.size w w') : w'.heap[b]? = some (.cells c t fr) := by
  have h0 : b < w.heap.size := by
    rcases Nat.lt_or_ge b w.heap.size with h' | h'
    · exact h'
    · rw [Array.getElem?_eq_none h'] at h
      cases h
  rw [hb.block _ h0]
  exact h

set_option maxHeartbeats 400000 in
set_option maxRecDepth 20000 in
theorem times1_any (m : Nat → W32) (b : Nat) (t : TypeId) (fr : Nat × Nat) (c : W32) (w : World) (h : w.heap[b]? = some (.cells (arr m) t fr)) :
    Calls Tryd.prog 30 #[.int .u32 (c.toNat : Int), .pointer (some ⟨b, 0, none⟩)] w fun e w' => e = .returned (.int .u32 ((tog m 32 (tog m 32 c)).toNat : Int)) ∧ Below w.heap.size w w' := by
  have hrow : w.drew.heap[b]? = some (.cells (arr m) t fr) := h
  have Hr := Lib.hid hrow; clear h
  go_enter Tryd.func30, Tryd.ntmps30
  go_wp2_with fail
  refine wp_region_held_drew (S := fun w' => w'.heap[b]? = some (.cells (arr m) t fr)) (by kernel_rfl) hrow (fun hHeld => ?_)
  clear hrow
  refine wpAnyH_take (i := 0) (oi := ⟨some 4, _, _, _, _, _⟩) (v := .agg (arr m)) rfl (by kernel_rfl) (by kernel_rfl) (by kernel_rfl) (fun _ _ _ h => h) (Or.inl ⟨by rfl, ?y0⟩) (by assumption) ?r0
  case y0 => (intro wq hSw; apply step_load_row (x := .tmp 1) (b := b) (c := arr m) <;> first | rfl | exact hSw | exact size_arr m)
  try simp only [Act.put, List.setIfInBounds_toArray, List.set_cons_zero, List.set_cons_succ]
  refine wpAnyH_take (i := 1) (oi := ⟨some 5, _, _, _, _, _⟩) (v := .agg (arr m)) rfl (by kernel_rfl) (by kernel_rfl) (by kernel_rfl) (fun _ _ _ h => h) (Or.inl ⟨by rfl, ?y1⟩) (by assumption) ?r1
  case y1 => (intro wq hSw; apply step_load_row (x := .tmp 1) (b := b) (c := arr m) <;> first | rfl | exact hSw | exact size_arr m)
  try simp only [Act.put, List.setIfInBounds_toArray, List.set_cons_zero, List.set_cons_succ]
  refine wpAnyH_take (i := 2) (oi := ⟨some 6, _, _, _, _, _⟩) (v := ?v2) rfl (by kernel_rfl) (by kernel_rfl) (by kernel_rfl) (fun _ _ _ h => h) (Or.inl ⟨by rfl, ?y2⟩) (by assumption) ?r2
  case y2 => (intro wq hSw; (try dsimp only at hSw); first | (go_simp; done) | (go_simp; with_reducible rfl))
  try simp only [Act.put, List.setIfInBounds_toArray, List.set_cons_zero, List.set_cons_succ]
  refine wpAnyH_ready (rs := [3]) (by kernel_rfl) (by simp) ?_
  refine AllReadyH.cons (o := ⟨some 7, _, _, _, _, _⟩) rfl (fun K hK => ?_) AllReadyH.nil
  go_simp
  refine (together_any m c _).mono ?_; rintro e w1 ⟨rfl, hb⟩
  have hrow3 := row_below Hr.out hb
  go_wp2_with fail
  refine hK.out _ _ hrow3 (fun hHeld => ?_)
  clear hK K
  try simp only [Act.put, List.setIfInBounds_toArray, List.set_cons_zero, List.set_cons_succ]
  refine wpAnyH_ready (rs := [4]) (by kernel_rfl) (by simp) ?_
  refine AllReadyH.cons (o := ⟨some 8, _, _, _, _, _⟩) rfl (fun K hK => ?_) AllReadyH.nil
  go_simp
  refine (together_any m (tog m 32 c) _).mono ?_; rintro e w2 ⟨rfl, hb2⟩
  have hrow4 := row_below hrow3 hb2
  go_wp2_with fail
  refine hK.out _ _ hrow4 (fun hHeld => ?_)
  clear hK K
  try simp only [Act.put, List.setIfInBounds_toArray, List.set_cons_zero, List.set_cons_succ]
  refine wpAnyH_take (i := 5) (oi := ⟨some 3, _, _, _, _, _⟩) (v := ?v5) rfl (by kernel_rfl) (by kernel_rfl) (by kernel_rfl) (fun _ _ _ h => h) (Or.inl ⟨by rfl, ?y5⟩) (by assumption) ?r5
  case y5 => (intro wq hSw; (try dsimp only at hSw); first | (go_simp; done) | (go_simp; with_reducible rfl))
  try simp only [Act.put, List.setIfInBounds_toArray, List.set_cons_zero, List.set_cons_succ]
  refine wpAnyH_done (by kernel_rfl) ?_ _
  go_wp2_with fail
  go_ret
  exact ⟨rfl, ((Below.drew (Below.refl _ _)).trans hb).trans (hb2.mono hb.size)⟩

theorem behind1_at (z : Int) (c : W32) (hz : z = (c.toNat : Int)) (w : World) (h : Nt w) :
    Calls Tryd.prog 27 #[.int .u32 z] w fun e w' => e = .returned (.int .u32 ((b8 c).toNat : Int)) ∧ Below w.heap.size w w' := by
  subst hz
  exact behind1_any c w h
theorem times1_at (m : Nat → W32) (b : Nat) (t : TypeId) (fr : Nat × Nat) (z : Int) (c : W32) (hz : z = (c.toNat : Int)) (w : World) (h : w.heap[b]? = some (.cells (arr m) t fr)) :
    Calls Tryd.prog 30 #[.int .u32 z, .pointer (some ⟨b, 0, none⟩)] w fun e w' => e = .returned (.int .u32 ((tog m 32 (tog m 32 c)).toNat : Int)) ∧ Below w.heap.size w w' := by
  subst hz
  exact times1_any m b t fr c w h
end Go.Proofs.YtpmjpagmddjjaaaDoor
