/-
  What Text and Bytes answer where they answer no error, put again, are the bytes that were read. No program, no condition.
-/
import Derived.Test.YtddcpjblahonhaaLaw
namespace Go.Proofs.Ytddcpjblahonhaa
open Go.RowKit

theorem longR_ok {l t : List UInt8} {at_ most : Int} {p : Nat} (h : longR l at_ most = (t, p, 0)) :
    ∃ a : Nat, at_ = a ∧ a < p ∧ p ≤ l.length ∧ venc 9 t.length ++ t = (l.drop a).take (p - a) := by
  unfold longR at h
  by_cases he : (varR l at_).2.2 = 0
  · rw [if_neg (by simp [he])] at h
    obtain ⟨a, ha, h1, h2, h3, h4⟩ := varR_ok he
    generalize (varR l at_).1 = n0 at *
    generalize (varR l at_).2.1 = p0 at *
    by_cases hm : max most 0 < (n0 : Int)
    · rw [if_pos hm] at h
      simp at h
    rw [if_neg hm] at h
    by_cases hs : l.length - p0 < n0
    · rw [if_pos hs] at h
      simp at h
    rw [if_neg hs] at h
    simp only [Prod.mk.injEq] at h
    obtain ⟨rfl, rfl, -⟩ := h
    have hl : ((l.drop p0).take n0).length = n0 := by rw [List.length_take, List.length_drop]; omega
    refine ⟨a, ha, by omega, by omega, ?_⟩
    rw [hl, h4, show p0 + n0 - a = (p0 - a) + n0 from by omega, List.take_add, List.drop_drop, show a + (p0 - a) = p0 from by omega]
  · rw [if_pos he] at h
    simp only [Prod.mk.injEq] at h
    exact absurd h.2.2 he
theorem longR_small (l : List UInt8) (at_ most : Int) : (longR l at_ most).1.length ≤ l.length := by
  unfold longR
  split
  · simp
  · split
    · simp
    · split
      · simp
      · simp only [List.length_take, List.length_drop]
        omega
theorem Sl.pre {w : World} {n c m : Nat} {A : Option Addr} {l : List UInt8} (h : Sl w 1 A n c (cells l)) (hm : m ≤ n) : Sl w 1 A m c (cells (l.take m)) := by
  have hl := h.len
  rw [cells_length, Nat.mul_one] at hl
  refine ⟨by rw [cells_length, List.length_take, Nat.mul_one]; omega, Nat.le_trans hm h.cap, h.top, fun j u hu => h.cell j u ?_⟩
  rw [cells_take, List.getElem?_take] at hu
  split at hu
  · exact hu
  · cases hu

theorem heap_set {w : World} {g k : Nat} {cu : Array Value} {e : TypeId} {v : Value} (h : w.heap[g]? = some (.cells cu e (0, 0))) : (w.setCell ⟨g, k, none⟩ v).heap[g]? = some (.cells (cu.setIfInBounds k v) e (0, 0)) := by
  simp [World.setCell, Array.getElem?_modify, h]
theorem bv_next (u : UInt8) : Value.int .u8 (((u.toNat : Int) + 1) % 256) = bv (u + 1) := by
  unfold bv
  rw [UInt8.toNat_add]
  simp
theorem all_set {cu : Array Value} {n k : Nat} {u : UInt8} (hk : k < n) (hn : n ≤ cu.size) (h : ∀ j, j < n → ∃ u : UInt8, cu[j]? = some (bv u)) :
    ∀ j, j < n → ∃ x : UInt8, (cu.setIfInBounds k (bv u))[j]? = some (bv x) := by
  intro j hj
  by_cases hjk : k = j
  · subst hjk
    exact ⟨u, by rw [Array.getElem?_setIfInBounds_self]; simp; omega⟩
  · obtain ⟨x, hx⟩ := h j hj
    exact ⟨x, by rw [Array.getElem?_setIfInBounds_ne hjk]; exact hx⟩
theorem Sl.made_at (w : World) (cs : Array Value) (t : TypeId) (fr : Nat × Nat) (n : Nat) (hs : cs.size = n) (h : n ≤ maxLen) : Sl (w.alloc (.cells cs t fr)) 1 (some ⟨w.heap.size, 0, none⟩) n n cs.toList :=
  ⟨by simpa using hs, Nat.le_refl _, h, fun j u hu => ⟨w.heap.size, 0, rfl, by rw [cell_of_row _ _ _ cs t fr (heap_alloc_new w _), Nat.zero_add]; simpa using hu⟩⟩
theorem Sl.three (w : World) (t : TypeId) (fr : Nat × Nat) (x y z : UInt8) : Sl (w.alloc (.cells #[.int .u8 (x.toNat : Int), .int .u8 (y.toNat : Int), .int .u8 (z.toNat : Int)] t fr)) 1 (some ⟨w.heap.size, 0, none⟩) 3 3 (cells [x, y, z]) :=
  Sl.made_at w #[.int .u8 (x.toNat : Int), .int .u8 (y.toNat : Int), .int .u8 (z.toNat : Int)] t fr 3 rfl (by decide)
end Go.Proofs.Ytddcpjblahonhaa
