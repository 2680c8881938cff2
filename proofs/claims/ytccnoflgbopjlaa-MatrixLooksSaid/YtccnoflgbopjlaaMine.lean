/-
  Cells of the call's own, which may be written: a write, a read, what stays ('Mine'). Nothing here speaks of the program's own text. No condition.
-/
import Derived.Test.YtccnoflgbopjlaaKit
import Derived.Laws.BitsAllLaws
namespace Go.Proofs.Ytccnoflgbopjlaa
open Go.RowKit
set_option linter.unusedVariables false

/-- A write into cells of the call's own. -/
theorem Mine.set {w : World} {B n g j : Nat} {e : TypeId} {l : List UInt8} (h : Mine w B e (some ⟨g, 0, none⟩) n (cells l)) (hj : j < n) (u : UInt8) : Mine (w.setCell ⟨g, j, none⟩ (.int .u8 (u.toNat : Int))) B e (some ⟨g, 0, none⟩) n (cells (l.set j u)) := by
  intro hn
  obtain ⟨g', cur, hA, hb, hg, hs, ht⟩ := h hn
  injection hA with hA
  injection hA with hA _
  subst hA
  refine ⟨g, _, rfl, hb, heap_setCell_same w g j cur e _ hg, by rw [Array.size_setIfInBounds]; exact hs, ?_⟩
  rw [Array.toList_setIfInBounds, List.take_set, ht, cells, cells, List.map_set]
  rfl
theorem Mine.at_ {w : World} {B n j : Nat} {e : TypeId} {A : Option Addr} {l : List UInt8} {u : UInt8} (h : Mine w B e A n (cells l)) (hj : j < n) (hu : l[j]? = some u) :
    ∃ g, A = some ⟨g, 0, none⟩ ∧ B ≤ g ∧ w.cell? ⟨g, j, none⟩ = some (.int .u8 (u.toNat : Int)) ∧ w.frozen? ⟨g, j, none⟩ = false := by
  obtain ⟨g, cur, rfl, hb, hg, hs, ht⟩ := h (by omega)
  refine ⟨g, rfl, hb, ?_, frozen_of_row _ _ _ _ _ hg⟩
  rw [cell_of_row _ _ _ _ _ _ hg]
  have h1 : (cells l)[j]? = some (bv u) := by simp [cells, hu]
  rw [← ht, List.getElem?_take_of_lt hj] at h1
  simpa [bv] using h1
theorem Mine.sl {w : World} {B n c : Nat} {e : TypeId} {A : Option Addr} {l : List UInt8} (h : Mine w B e A n (cells l)) (hl : l.length = n) (hc : n ≤ c) (h63 : c ≤ maxLen) : Sl w 1 A n c (cells l) :=
  ⟨by rw [cells_length, hl, Nat.mul_one], hc, h63, fun j u hu => by
    have hj : j < n := by
      rcases Nat.lt_or_ge j n with h' | h'
      · exact h'
      · rw [List.getElem?_eq_none (by rw [cells_length, hl]; exact h')] at hu
        cases hu
    obtain ⟨g, cur, rfl, _, hg, _, ht⟩ := h (by omega)
    refine ⟨g, 0, rfl, ?_⟩
    rw [Nat.zero_add, cell_of_row _ _ _ _ _ _ hg]
    rw [← ht, List.getElem?_take_of_lt hj] at hu
    simpa using hu⟩
theorem Mine.later {w w' : World} {B n : Nat} {e : TypeId} {A : Option Addr} {xs : List Value} (h : Mine w B e A n xs) (hb : Below w.heap.size w w') : Mine w' B e A n xs := by
  intro hn
  obtain ⟨g, cur, hA, hB, hg, hs, ht⟩ := h hn
  refine ⟨g, cur, hA, hB, ?_, hs, ht⟩
  have h0 : g < w.heap.size := by
    rcases Nat.lt_or_ge g w.heap.size with h' | h'
    · exact h'
    · rw [Array.getElem?_eq_none h'] at hg
      cases hg
  rw [hb.block _ h0]
  exact hg

theorem xor_b (x y : UInt8) : bits .xor .u8 (x.toNat : Int) (y.toNat : Int) = ((x ^^^ y).toNat : Int) := by
  rw [u8_xor_nat _ _ x.toNat_lt y.toNat_lt, UInt8.toNat_xor]
end Go.Proofs.Ytccnoflgbopjlaa
