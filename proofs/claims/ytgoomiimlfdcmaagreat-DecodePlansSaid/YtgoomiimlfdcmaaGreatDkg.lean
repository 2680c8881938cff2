/-
  Equations that are copied into new memory, as the document's solve of layer 6 does first. No condition but bounds.
-/
import Derived.Test.YtgoomiimlfdcmaaGreatDke
namespace Go.Proofs.YtgoomiimlfdcmaaGreat
open Go.RowKit Go.Proofs
set_option linter.unusedVariables false

theorem info_eq6 : (Tryz.prog.info? 83).map (fun i => (i.zero, i.size, i.bytes)) = some (some (.agg #[.slice none 0 0, .slice none 0 0]), 2, 48) := by kernel_rfl
theorem zeroEq_slice (m i : Nat) (u : Value) (h : (Builtin.zeroCells #[.slice none 0 0, .slice none 0 0] m)[i]? = some u) : ∃ a n c, u = Value.slice a n c := by
  unfold Builtin.zeroCells at h
  rw [Array.getElem?_map] at h
  obtain ⟨j, _, hj⟩ := Option.map_eq_some_iff.1 h
  have h2 : j % 2 = 0 ∨ j % 2 = 1 := by omega
  rcases h2 with h2 | h2
  · exact ⟨none, 0, 0, by rw [← hj]; simp [h2]⟩
  · exact ⟨none, 0, 0, by rw [← hj]; simp [h2]⟩
theorem run_append_eqs {w : World} {A B : Option Addr} {k c : Nat} {xs : List Value} (hs : Sl w 2 A k c xs) (h1 : ∀ u ∈ xs, ∃ a n c, u = Value.slice a n c) (hk1 : 1 ≤ k) (hk : k ≤ 255) (ty : TypeId) :
    ∃ cap cur w', (Builtin.append_ #[81, 81] ty #[.slice B 0 0, .slice A k c]).run Tryz.prog w = .ok (.slice (some ⟨w.heap.size, 0, none⟩) k cap) w' ∧ Below w.heap.size w w' ∧ k ≤ cap ∧ cap ≤ maxLen ∧
      w'.heap[w.heap.size]? = some (.cells cur 83 (0, 0)) ∧ k * 2 ≤ cur.size ∧ (∀ (i : Nat) (u : Value), cur[i]? = some u → ∃ a n c, u = .slice a n c) ∧ ∀ i : Nat, i < k * 2 → cur[i]? = xs[i]? := by
  obtain ⟨i0, hi, hz0, hz1, hz2⟩ := info_parts info_eq6
  have hsrc := hs.src Tryz.underlying81 (by decide) (one_slice h1)
  have hold := (Sl.empty w.drew i0.size B 0 (by decide)).firstCells (P := Tryz.prog)
  rw [← hz1] at hsrc
  have hfit : Builtin.nextslicecap (0 + k) 0 * i0.bytes ≤ 281474976710656 := growslice_fits (by omega) (by rw [hz2]; omega)
  have hr := run_append_grow_src (P := Tryz.prog) w 81 81 ty 83 i0 _ Tryz.underlying81 hi hz0 B 0 0 [] hold (.slice A k c) k xs hsrc (by omega) (by omega) hfit
  have hge := grownCap_ge w (0 + k) 0 83
  have hcm := grownCap_le_maxLen w (0 + k) 0 83 (by unfold maxLen; omega)
  rw [Nat.zero_add] at hr hge hcm
  have hxl := hs.len
  refine ⟨_, _, _, hr, (Below.drew (Below.refl _ _)).alloc (Nat.le_refl _) _, hge, hcm, heap_alloc_new w.drew _, ?_, fun i u hu => ?_, fun i hi' => ?_⟩
  · simp only [Array.size_append, List.size_toArray, List.nil_append]
    omega
  · rw [Array.getElem?_append] at hu
    split at hu
    · rename_i hlt
      have : u ∈ xs := by
        rw [List.nil_append] at hu
        have hu' : xs[i]? = some u := by simpa using hu
        exact List.mem_of_getElem? hu'
      exact h1 u this
    · exact zeroEq_slice _ _ u hu
  · rw [Array.getElem?_append, if_pos (by simp only [List.size_toArray, List.nil_append]; omega)]
    simp
end Go.Proofs.YtgoomiimlfdcmaaGreat
