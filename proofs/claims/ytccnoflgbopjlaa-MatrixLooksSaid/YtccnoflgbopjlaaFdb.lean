/-
  Contracts of package field's fill, made and New: the tables are made once, at the first use. No condition.
-/
import Derived.Test.YtccnoflgbopjlaaFda
import Derived.Test.YtccnoflgbopjlaaFdm
import Derived.Test.YtccnoflgbopjlaaFr
import Derived.Deep.RegionWith
import Derived.Laws.BitsAllLaws
import Derived.Laws.Shifts
namespace Go.Proofs.Ytccnoflgbopjlaa
open Go.RowKit
set_option linter.unusedVariables false

/-- The tables' block. -/
def Tabs (w : World) (T : Nat) (d m : Int) (f g : Nat → UInt8) : Prop := w.heap[T]? = some (.cells (tb d m f g) 76 (0, 0))
/-- Only block T may have turned. -/
abbrev Ft (T : Nat) : Nat → Prop := fun k => k = T

section
variable {w w' : World} {T : Nat} {d m : Int} {f g : Nat → UInt8}
theorem Tabs.lt (h : Tabs w T d m f g) : T < w.heap.size := block_lt h
theorem Tabs.cellPw (h : Tabs w T d m f g) (i : Nat) (hi : i < 255) : w.cell? ⟨T, 3 + i, none⟩ = some (.int .u8 ((f i).toNat : Int)) := by
  rw [cell_of_row _ _ _ _ _ _ h]
  exact tb_at_pw d m f g i hi
theorem Tabs.cellEx (h : Tabs w T d m f g) (v : Nat) (hv : v < 256) : w.cell? ⟨T, 258 + v, none⟩ = some (.int .u8 ((g v).toNat : Int)) := by
  rw [cell_of_row _ _ _ _ _ _ h]
  exact tb_at_ex d m f g v hv
theorem Tabs.cell0 (h : Tabs w T d m f g) : w.cell? ⟨T, 0, none⟩ = some (.int .u32 d) := by
  rw [cell_of_row _ _ _ _ _ _ h, tb_get _ _ _ _ _ (by omega)]
  rfl
theorem Tabs.cell1 (h : Tabs w T d m f g) : w.cell? ⟨T, 1, none⟩ = some (.int .i32 m) := by
  rw [cell_of_row _ _ _ _ _ _ h, tb_get _ _ _ _ _ (by omega)]
  rfl
theorem Tabs.free (h : Tabs w T d m f g) (j : Nat) : w.frozen? ⟨T, j, none⟩ = false := frozen_of_row _ _ _ _ _ h
theorem Tabs.set (h : Tabs w T d m f g) {d' m' : Int} {f' g' : Nat → UInt8} (j : Nat) (v : Value) (e : (tb d m f g).setIfInBounds j v = tb d' m' f' g') : Tabs (w.setCell ⟨T, j, none⟩ v) T d' m' f' g' := by
  unfold Tabs
  rw [heap_setCell_same w T j _ _ _ h, e]
theorem Tabs.drew (h : Tabs w T d m f g) : Tabs w.drew T d m f g := h
theorem Tabs.fr {S : Nat → Prop} (h : Tabs w T d m f g) (hf : Fr S w w') (hs : ¬ S T) : Tabs w' T d m f g := hf.row_some h hs
theorem Tabs.congr (h : Tabs w T d m f g) {f' g' : Nat → UInt8} (hf : ∀ i, i < 255 → f i = f' i) (hg : ∀ v, v < 256 → g v = g' v) : Tabs w T d m f' g' := by
  unfold Tabs
  rw [← tb_congr hf hg]
  exact h
end

theorem tb_val (d m : Int) (f g : Nat → UInt8) (v k : Nat) (x : UInt8) (h : v < 256) (hx : (x.toNat : Int) = (k : Int)) : (tb d m f g).setIfInBounds (258 + v) (.int .u8 (k : Int)) = tb d m f (fun j => if j = v then x else g j) := by
  rw [← hx]
  exact tb_ex d m f g v x h
theorem dbl2 : ∀ i, i < 255 → 256 ≤ (pwF i).toNat * 2 → ((pwF ((i + 1) % 255)).toNat : Int) = bits .xor .i64 (((pwF i).toNat : Int) * 2) 285 := by decide +kernel
theorem fill_step (k : Nat) (hk : k < 255) : ((pwF k).toNat : Int) * 2 < 256 ∧ ((pwF ((k + 1) % 255)).toNat : Int) = ((pwF k).toNat : Int) * 2 ∨ ¬ ((pwF k).toNat : Int) * 2 < 256 ∧ ((pwF ((k + 1) % 255)).toNat : Int) = bits .xor .i64 (((pwF k).toNat : Int) * 2) 285 := by
  have h := dbl k hk
  have hlt := (pwF k).toNat_lt
  rcases Nat.lt_or_ge ((pwF k).toNat * 2) 256 with hd | hd
  · left
    have := h.1 hd
    omega
  · right
    exact ⟨by omega, dbl2 k hk hd⟩

set_option maxHeartbeats 1000000 in
set_option maxRecDepth 20000 in
theorem fill_any (T : Nat) (d m : Int) (w : World) (h : Tabs w T d m (fun _ => 0) (fun _ => 0)) :
    Calls Try.prog 66 #[.pointer (some ⟨T, 0, none⟩)] w fun e w' => e = .returned (.tuple #[]) ∧ Tabs w' T d m pwF exF ∧ Fr (Ft T) w w' := by
  have H := Lib.hid h; clear h
  go_enter Try.func66, Try.ntmps66
  go_wp2_with fail
  go_loopw [2, 4] (fun p i wr => ∃ k : Nat, k ≤ 255 ∧ i = .int .i64 (k : Int) ∧ p = .int .i64 ((pwF (k % 255)).toNat : Int) ∧ Tabs wr T d m (pwN k) (exN k) ∧ Fr (Ft T) w wr) (fun _ i _ => 255 - (intOf i).toNat)
  case atStart => exact ⟨0, by omega, rfl, rfl, H.out.congr (fun i _ => (pwN_zero i).symm) (fun v _ => (exN_zero v).symm), Fr.refl _ _⟩
  case round =>
    obtain ⟨k, hk, rfl, rfl, ht, hf⟩ := hrel
    have Ht := Lib.hid ht; clear ht
    by_cases hlt : k < 255
    · rw [Nat.mod_eq_of_lt hlt]
      have hc1 := Ht.out.cellPw k hlt
      have hz1 := Ht.out.free (3 + k)
      have hp := (pwF k).toNat_lt
      have hc2 := Ht.out.cellEx (pwF k).toNat hp
      have hz2 := Ht.out.free (258 + (pwF k).toNat)
      go_wp2_with fail
      all_goals
        go_roundw
        case rel =>
          refine ⟨k + 1, by omega, by go_num, ?_, ?_, ?_⟩
          · rcases fill_step k hlt with ⟨h1, h2⟩ | ⟨h1, h2⟩
            · first | (rw [h2]; done) | (exfalso; omega)
            · first | (rw [h2]; done) | (exfalso; omega)
          · refine Tabs.congr ((Ht.out.set (3 + k) _ (tb_pw _ _ _ _ k (pwF k) hlt)).set (258 + (pwF k).toNat) _ (tb_val _ _ _ _ _ k (UInt8.ofNat k) hp (by rw [UInt8.toNat_ofNat']; omega))) (fun i _ => (pwN_succ k i).symm) (fun v hv => (exN_succ k v hlt hv).symm)
          · exact (hf.setCell (.inr rfl) _).setCell (.inr rfl) _
        case measure => simp [intOf]; omega
    · obtain rfl : k = 255 := by omega
      go_wp2_with fail
      go_end0
      exact ⟨rfl, Ht.out.congr (fun i hi => pwN_all i hi) (fun v hv => exN_all v hv), hf⟩
end Go.Proofs.Ytccnoflgbopjlaa
