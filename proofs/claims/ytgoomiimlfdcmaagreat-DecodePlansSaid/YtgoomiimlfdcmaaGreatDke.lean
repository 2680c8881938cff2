/-
  Equations in memory, in a slice of the call's own: what solving of layer 6 writes. No condition.
-/
import Derived.Test.YtgoomiimlfdcmaaGreatDkb
import Derived.Test.YtgoomiimlfdcmaaGreatDkc
namespace Go.Proofs.YtgoomiimlfdcmaaGreat
open Go.RowKit Go.Proofs
set_option linter.unusedVariables false

/-- At block g lie k equations: of k factors and W bytes, as the rows of M; in that block lie slices alone. -/
structure EqsAt (w : World) (g k W : Nat) (M : Mx) : Prop where
  ex : ∃ cur : Array Value, w.heap[g]? = some (.cells cur 83 (0, 0)) ∧ k * 2 ≤ cur.size ∧ (∀ (i : Nat) (u : Value), cur[i]? = some u → ∃ a n c, u = .slice a n c) ∧
    ∀ a, a < k → ∃ A c A2 c2, cur[a * 2]? = some (.slice A k c) ∧ cur[a * 2 + 1]? = some (.slice A2 W c2) ∧ Sl w 1 A k c (cells (rowL k (M a))) ∧ Sl w 1 A2 W c2 (cells (rowL W fun p => M a (k + p)))
section
variable {w w' : World} {g k W : Nat} {M : Mx}
theorem EqsAt.lt (h : EqsAt w g k W M) : g < w.heap.size := by
  obtain ⟨cur, hg, _⟩ := h.ex
  exact block_lt hg
theorem EqsAt.free (h : EqsAt w g k W M) (i : Nat) : w.frozen? ⟨g, i, none⟩ = false := by
  obtain ⟨cur, hg, _⟩ := h.ex
  exact frozen_of_row _ _ _ _ _ hg
theorem EqsAt.later (h : EqsAt w g k W M) (hb : Below w.heap.size w w') : EqsAt w' g k W M := by
  obtain ⟨cur, hg, hs, ha, hr⟩ := h.ex
  refine ⟨cur, (hb.block _ (block_lt hg)).trans hg, hs, ha, fun a hak => ?_⟩
  obtain ⟨A, c, A2, c2, h1, h2, h3, h4⟩ := hr a hak
  exact ⟨A, c, A2, c2, h1, h2, h3.below hb (Nat.le_refl _), h4.below hb (Nat.le_refl _)⟩
theorem EqsAt.cell (h : EqsAt w g k W M) {a : Nat} (ha : a < k) : ∃ A c A2 c2, w.cell? ⟨g, a * 2, none⟩ = some (.slice A k c) ∧ w.cell? ⟨g, a * 2 + 1, none⟩ = some (.slice A2 W c2) ∧ Sl w 1 A k c (cells (rowL k (M a))) ∧ Sl w 1 A2 W c2 (cells (rowL W fun p => M a (k + p))) := by
  obtain ⟨cur, hg, hs, _, hr⟩ := h.ex
  obtain ⟨A, c, A2, c2, h1, h2, h3, h4⟩ := hr a ha
  exact ⟨A, c, A2, c2, by rw [cell_of_row _ _ _ _ _ _ hg]; exact h1, by rw [cell_of_row _ _ _ _ _ _ hg]; exact h2, h3, h4⟩
/-- No bytes lie in it. -/
theorem EqsAt.off (h : EqsAt w g k W M) {A : Option Addr} {n c : Nat} {l : List UInt8} (hs : Sl w 1 A n c (cells l)) {b o : Nat} (hn : 0 < n) (hA : A = some ⟨b, o, none⟩) : b ≠ g := by
  rintro rfl
  obtain ⟨cur, hg, _, hall, _⟩ := h.ex
  obtain ⟨b', o', e, hc⟩ := hs.at_ hn
  rw [hA] at e
  injection e with e
  injection e with e1 e2
  subst e1; subst e2
  have hl := hs.len
  rw [cells_length, Nat.mul_one] at hl
  have h0 := hc 0 _ (cells_get l 0 (by omega))
  rw [cell_of_row _ _ _ _ _ _ hg] at h0
  obtain ⟨x, y, z, e⟩ := hall _ _ h0
  cases e
theorem EqsAt.congr (h : EqsAt w g k W M) {M' : Mx} (e : ∀ a, a < k → ∀ c, c < k + W → M a c = M' a c) : EqsAt w g k W M' := by
  obtain ⟨cur, hg, hs, ha, hr⟩ := h.ex
  refine ⟨cur, hg, hs, ha, fun a hak => ?_⟩
  obtain ⟨A, c, A2, c2, h1, h2, h3, h4⟩ := hr a hak
  exact ⟨A, c, A2, c2, h1, h2, by rw [← rowL_congr (fun c hc => e a hak c (by omega))]; exact h3, by rw [← rowL_congr (fun p hp => e a hak (k + p) (by omega))]; exact h4⟩
/-- An equation is stored. -/
theorem EqsAt.set (h : EqsAt w g k W M) {a : Nat} (ha : a < k) {A A2 : Option Addr} {c c2 : Nat} {f : Nat → UInt8} (h1 : Sl w 1 A k c (cells (rowL k f))) (h2 : Sl w 1 A2 W c2 (cells (rowL W fun p => f (k + p)))) :
    EqsAt ((w.setCell ⟨g, a * 2, none⟩ (.slice A k c)).setCell ⟨g, a * 2 + 1, none⟩ (.slice A2 W c2)) g k W (fun b => if b = a then f else M b) ∧ Fr (fun k => k = g) w ((w.setCell ⟨g, a * 2, none⟩ (.slice A k c)).setCell ⟨g, a * 2 + 1, none⟩ (.slice A2 W c2)) := by
  have hf : Fr (fun k => k = g) w ((w.setCell ⟨g, a * 2, none⟩ (.slice A k c)).setCell ⟨g, a * 2 + 1, none⟩ (.slice A2 W c2)) := (Fr.setCell (S := fun k => k = g) (Fr.refl _ _) (.inr rfl) _).setCell (.inr rfl) _
  refine ⟨⟨?_⟩, hf⟩
  obtain ⟨cur, hg, hs, hall, hr⟩ := h.ex
  have e0 := heap_setCell_same w g (a * 2) cur _ (.slice A k c) hg
  have e1 := heap_setCell_same _ g (a * 2 + 1) _ _ (.slice A2 W c2) e0
  have hne : a * 2 ≠ a * 2 + 1 := by omega
  refine ⟨_, e1, by rw [Array.size_setIfInBounds, Array.size_setIfInBounds]; exact hs, fun i u hi => ?_, fun b hb => ?_⟩
  · rw [Array.getElem?_setIfInBounds] at hi
    split at hi
    · split at hi
      · injection hi with hi
        exact ⟨_, _, _, hi.symm⟩
      · cases hi
    · rw [Array.getElem?_setIfInBounds] at hi
      split at hi
      · split at hi
        · injection hi with hi
          exact ⟨_, _, _, hi.symm⟩
        · cases hi
      · exact hall i u hi
  · by_cases hba : b = a
    · subst hba
      refine ⟨A, c, A2, c2, ?_, ?_, ?_, ?_⟩
      · rw [Array.getElem?_setIfInBounds, if_neg (by omega), Array.getElem?_setIfInBounds, if_pos rfl, if_pos (by omega)]
      · rw [Array.getElem?_setIfInBounds, if_pos rfl, if_pos (by rw [Array.size_setIfInBounds]; omega)]
      · rw [if_pos rfl]
        exact h1.fr hf fun b' o hn e hk => h.off h1 hn e hk
      · rw [if_pos rfl]
        exact h2.fr hf fun b' o hn e hk => h.off h2 hn e hk
    · obtain ⟨B, d, B2, d2, k1, k2, k3, k4⟩ := hr b hb
      refine ⟨B, d, B2, d2, ?_, ?_, ?_, ?_⟩
      · rw [Array.getElem?_setIfInBounds, if_neg (by omega), Array.getElem?_setIfInBounds, if_neg (by omega)]
        exact k1
      · rw [Array.getElem?_setIfInBounds, if_neg (by omega), Array.getElem?_setIfInBounds, if_neg (by omega)]
        exact k2
      · rw [if_neg hba]
        exact k3.fr hf fun b' o hn e hk => h.off k3 hn e hk
      · rw [if_neg hba]
        exact k4.fr hf fun b' o hn e hk => h.off k4 hn e hk
end
end Go.Proofs.YtgoomiimlfdcmaaGreat
