/-
  Contracts of slices.Grow and slices.Concat as package matrix calls them. No condition but bounds.
-/
import Derived.Test.YtccnoflgbopjlaaMdl
import Derived.Lib.AppendZerosOnto
import Derived.Lib.AppendZeros
import Derived.LoopN
namespace Go.Proofs.Ytccnoflgbopjlaa
open Go.RowKit Go.Proofs
set_option linter.unusedVariables false

/-- append(nil, make([]byte, k)...). -/
theorem run_zeros (k : Nat) (h0 : 0 < k) (hk : k ≤ 1073741824) (w : World) (ty : TypeId) :
    ∃ C w', (Builtin.append_ #[22, 3] ty #[.slice none 0 0, .int .i64 (k : Int)]).run Try.prog w = .ok (.slice (some ⟨w.heap.size, 0, none⟩) k C) w' ∧ Below w.heap.size w w' ∧ k ≤ C ∧ C ≤ maxLen ∧ Grow w' w.heap.size (some ⟨w.heap.size, 0, none⟩) 0 C [] := by
  obtain ⟨i0, hi, hz0, hz1, hz2⟩ := info_parts info_u8
  have hold : (Builtin.firstCells i0.size 0 (.slice none 0 0)).run Try.prog w.drew = .ok ([] : List Value).toArray w.drew := run_firstCells_none w.drew i0.size 0 0 0
  have h := Lib.run_append_grow_zeros w 22 3 ty 5 i0 (.int .u8 0) .i64 .i64 Try.underlying22 Try.underlying3 hi hz0 none 0 0 [] hold k h0 (by rw [hz1]; decide) (by omega) (by omega) (by rw [hz2]; omega)
    (growslice_fits (by omega) (by rw [hz2]; omega))
  have hge := grownCap_ge w (0 + k) 0 5
  have hcm := grownCap_le_maxLen w (0 + k) 0 5 (by unfold maxLen; omega)
  rw [Nat.zero_add] at h hge hcm
  refine ⟨_, _, h, (Below.drew (Below.refl _ _)).alloc (Nat.le_refl _) _, hge, hcm, ⟨⟨Sl.empty _ 1 _ _ hcm, .inr ⟨by simp [cells], .inr ⟨w.heap.size, _, _, rfl, Nat.le_refl _, heap_alloc_new w.drew _, Nat.zero_le _, hcm, ?_, by simp [cells]⟩⟩⟩, fun h => absurd h (by omega)⟩⟩
  simp only [Array.size_append, List.size_toArray, size_zeroCells, List.length_nil, Value.cells]
  simp
  omega

set_option maxRecDepth 20000 in
set_option maxHeartbeats 800000 in
theorem grow_any (k : Nat) (h0 : 0 < k) (hk : k ≤ 1073741824) (w : World) :
    Calls Try.prog 68 #[.slice none 0 0, .int .i64 (k : Int)] w fun e w' => ∃ A C, e = .returned (.slice A 0 C) ∧ Below w.heap.size w w' ∧ Grow w' w.heap.size A 0 C [] := by
  obtain ⟨C, w1, hr, hb, hC, hC2, hg⟩ := run_zeros k h0 hk w 22
  have h1 : ¬ ((k : Int) < 0) := by omega
  have h4 : ((k : Int) > 0) := by omega
  unfold maxLen at hC2
  have Hb := Lib.hid hb; clear hb
  have Hg := Lib.hid hg; clear hg
  go_enter Try.func68, Try.ntmps68
  go_wp2_with (at_builtin; refine Lib.wpList_append_run _ rfl _ _ _ _ rfl _ _ rfl rfl _ _ hr ?_)
  go_ret
  exact ⟨_, C, rfl, Hb.out, Hg.out⟩

set_option maxRecDepth 20000 in
set_option maxHeartbeats 1600000 in
theorem concat_any (g : Nat) (A1 : Option Addr) (n1 c1 : Nat) (l1 : List UInt8) (A2 : Option Addr) (n2 c2 : Nat) (l2 : List UInt8) (h1 : 1 ≤ n1) (h2 : n1 ≤ 255) (h2' : 1 ≤ n2) (h3 : n2 ≤ 255) (w : World)
    (hg : w.heap[g]? = some (.cells #[.slice A1 n1 c1, .slice A2 n2 c2] 22 (0, 0))) (s1 : Sl w 1 A1 n1 c1 (cells l1)) (s2 : Sl w 1 A2 n2 c2 (cells l2)) :
    Calls Try.prog 63 #[.slice (some ⟨g, 0, none⟩) 2 2] w (RetMine w.heap.size w (l1 ++ l2)) := by
  have k0 : w.cell? ⟨g, 0, none⟩ = some (.slice A1 n1 c1) := by rw [cell_of_row _ _ _ _ _ _ hg]; rfl
  have k1 : w.cell? ⟨g, 1, none⟩ = some (.slice A2 n2 c2) := by rw [cell_of_row _ _ _ _ _ _ hg]; rfl
  have hgl := block_lt hg
  have S1 := Lib.hid s1; clear s1
  have S2 := Lib.hid s2; clear s2
  clear hg
  go_enter Try.func63, Try.ntmps63
  go_wp2_with fail
  refine wp_loop_rounds 3 ?_
  rw [rounds_succ]
  go_wp2_with fail
  rw [rounds_succ]
  go_wp2_with fail
  rw [rounds_succ]
  go_wp2_with fail
  have hh := grow_any (n1 + n2) (by omega) (by omega) w
  rw [show ((n1 + n2 : Nat) : Int) = (n1 : Int) + (n2 : Int) from by simp] at hh
  refine hh.mono ?_; clear hh; rintro e w1 ⟨A, C, rfl, hb, hgr⟩
  have k0' := (hb.cell (p := ⟨g, 0, none⟩) hgl).trans k0
  have k1' := (hb.cell (p := ⟨g, 1, none⟩) hgl).trans k1
  have T1 := Lib.hid (S1.out.below hb (Nat.le_refl _))
  have T2 := Lib.hid (S2.out.below hb (Nat.le_refl _))
  have Hb := Lib.hid hb; clear hb
  have Hgr := Lib.hid hgr; clear hgr k0 k1
  have hz1 := Hb.out.size
  go_wp2_with fail
  refine wp_loop_rounds 3 ?_
  rw [rounds_succ]
  go_wp2_with (at_builtin; refine wpList_append_bm (B := w.heap.size) rfl (.tmp 31) (.tmp 32) rfl rfl Hgr.out.own ?pa A1 n1 c1 l1 rfl T1.out ?pb ?pc)
  case pa => omega
  case pb => omega
  intro A3 c3 w2 ho2 hb2 hr2
  have k1'' := (hb2.cell (p := ⟨g, 1, none⟩) hgl).trans k1'
  have T3 := Lib.hid (S2.out.below (Hb.out.trans hb2) (Nat.le_refl _))
  have G2 := Lib.hid (show Grow w2 w.heap.size A3 n1 c3 ([] ++ l1) from ⟨by rw [cells_append]; exact ho2, fun h => by rw [cells_append]; exact hr2 h⟩)
  have Hb2 := Lib.hid (Hb.out.trans hb2)
  have hz2 := Hb2.out.size
  clear ho2 hr2 hb2 k0' k1'
  go_wp2_with fail
  rw [rounds_succ]
  go_wp2_with (at_builtin; refine wpList_append_bm (B := w.heap.size) rfl (.tmp 31) (.tmp 32) rfl rfl G2.out.own ?qa A2 n2 c2 l2 rfl T3.out ?qb ?qc)
  case qa => omega
  case qb => omega
  intro A4 c4 w3 ho3 hb3 hr3
  have S4 := Lib.hid ho3.sl
  have M4 : Mine w3 w.heap.size 5 A4 (n1 + n2) (cells l1 ++ cells l2) := by
    have := Mine.of_own (hr3 h2')
    simpa using this
  have HM4 := Lib.hid M4; clear M4
  have Hb3 := Lib.hid (Hb2.out.trans hb3)
  clear ho3 hr3 hb3
  go_wp2_with fail
  rw [rounds_succ]
  go_wp2_with fail
  go_ret
  exact ⟨A4, _, c4, rfl, by have := S4.out; rwa [← cells_append] at this, Hb3.out, by rw [cells_append]; exact HM4.out⟩
end Go.Proofs.Ytccnoflgbopjlaa
