/-
  Contracts of package matrix's small calls: fits, within, unit, Right, At; of a field that is nil. No condition.
-/
import Derived.Test.YtccnoflgbopjlaaMac
import Derived.Test.YtccnoflgbopjlaaFdg
import Derived.Shelf.Abstract
namespace Go.Proofs.Ytccnoflgbopjlaa
open Go.RowKit
set_option linter.unusedVariables false

/-- May a matrix have so many rows? -/
def fitsB (n : Int) : Bool := decide (1 ≤ n ∧ n ≤ 255)
theorem fitsB_t {n : Int} (h : 1 ≤ n ∧ n ≤ 255) : fitsB n = true := decide_eq_true h
theorem fitsB_f {n : Int} (h : ¬ (1 ≤ n ∧ n ≤ 255)) : fitsB n = false := decide_eq_false h
/-- Is i one of n numbers? -/
def withinB (i n : Int) : Bool := decide (0 ≤ i ∧ i < n)
theorem withinB_t {i n : Int} (h : 0 ≤ i ∧ i < n) : withinB i n = true := decide_eq_true h
theorem withinB_f {i n : Int} (h : ¬ (0 ≤ i ∧ i < n)) : withinB i n = false := decide_eq_false h

set_option maxRecDepth 20000 in
theorem fits_any (n : Int) (w : World) : Calls Try.prog 31 #[.int .i64 n] w fun e w' => e = .returned (.bool (fitsB n)) ∧ w' = w := by
  by_cases h1 : 1 ≤ n
  · by_cases h2 : n ≤ 255
    · go_enter Try.func31, Try.ntmps31
      go_wp2_with fail
      go_ret
      exact ⟨by rw [fitsB_t (by omega)]; rfl, rfl⟩
    · go_enter Try.func31, Try.ntmps31
      go_wp2_with fail
      go_ret
      exact ⟨by rw [fitsB_f (by omega)]; rfl, rfl⟩
  · go_enter Try.func31, Try.ntmps31
    go_wp2_with fail
    go_ret
    exact ⟨by rw [fitsB_f (by omega)]; rfl, rfl⟩
theorem fits_yes (n : Int) (h1 : 1 ≤ n) (h2 : n ≤ 255) (w : World) : Calls Try.prog 31 #[.int .i64 n] w fun e w' => e = .returned (.bool true) ∧ w' = w :=
  (fits_any n w).mono fun e w' ⟨h, k⟩ => ⟨by rw [h, fitsB_t ⟨h1, h2⟩], k⟩
theorem fits_no (n : Int) (h : n < 1 ∨ 255 < n) (w : World) : Calls Try.prog 31 #[.int .i64 n] w fun e w' => e = .returned (.bool false) ∧ w' = w :=
  (fits_any n w).mono fun e w' ⟨h', k⟩ => ⟨by rw [h', fitsB_f (by omega)], k⟩

set_option maxRecDepth 20000 in
theorem within_any (i n : Int) (w : World) : Calls Try.prog 30 #[.int .i64 i, .int .i64 n] w fun e w' => e = .returned (.bool (withinB i n)) ∧ w' = w := by
  by_cases h1 : 0 ≤ i
  · by_cases h2 : i < n
    · go_enter Try.func30, Try.ntmps30
      go_wp2_with fail
      go_ret
      exact ⟨by rw [withinB_t (by omega)]; rfl, rfl⟩
    · go_enter Try.func30, Try.ntmps30
      go_wp2_with fail
      go_ret
      exact ⟨by rw [withinB_f (by omega)]; rfl, rfl⟩
  · go_enter Try.func30, Try.ntmps30
    go_wp2_with fail
    go_ret
    exact ⟨by rw [withinB_f (by omega)]; rfl, rfl⟩
theorem within_yes (i n : Int) (h1 : 0 ≤ i) (h2 : i < n) (w : World) : Calls Try.prog 30 #[.int .i64 i, .int .i64 n] w fun e w' => e = .returned (.bool true) ∧ w' = w :=
  (within_any i n w).mono fun e w' ⟨h, k⟩ => ⟨by rw [h, withinB_t ⟨h1, h2⟩], k⟩
theorem within_no (i n : Int) (h : ¬ (0 ≤ i ∧ i < n)) (w : World) : Calls Try.prog 30 #[.int .i64 i, .int .i64 n] w fun e w' => e = .returned (.bool false) ∧ w' = w :=
  (within_any i n w).mono fun e w' ⟨h', k⟩ => ⟨by rw [h', withinB_f h], k⟩

set_option maxRecDepth 20000 in
theorem unit_any (i j : Nat) (w : World) : Calls Try.prog 36 #[.int .i64 (i : Int), .int .i64 (j : Int)] w fun e w' => e = .returned (.int .u8 ((one i j).toNat : Int)) ∧ w' = w := by
  by_cases h : i = j
  · subst h
    go_enter Try.func36, Try.ntmps36
    go_wp2_with fail
    go_ret
    exact ⟨by rw [one, if_pos rfl]; rfl, rfl⟩
  · have hq : (((i : Nat) : Int) == (j : Int)) = false := by simp; omega
    go_enter Try.func36, Try.ntmps36
    go_wp2_with fail
    go_ret
    exact ⟨by rw [one, if_neg h]; rfl, rfl⟩

set_option maxRecDepth 20000 in
set_option maxHeartbeats 800000 in
theorem right_any (r c : Int) (A : Option Addr) (n cp : Nat) (hn : n ≤ maxLen) (w : World) :
    Calls Try.prog 14 #[.agg #[.int .i64 r, .int .i64 c, .slice A n cp]] w fun e w' => e = .returned (.bool (rightB r c n)) ∧ Below w.heap.size w w' := by
  unfold maxLen at hn
  by_cases h1 : 1 ≤ r ∧ r ≤ 255
  · obtain ⟨h1, h2⟩ := h1
    by_cases h3 : 1 ≤ c ∧ c ≤ 255
    · obtain ⟨h3, h4⟩ := h3
      go_enter Try.func14, Try.ntmps14
      go_wp2_with fail
      refine (fits_yes r h1 h2 _).mono ?_; rintro e w1 ⟨rfl, rfl⟩
      go_wp2_with fail
      refine (fits_yes c h3 h4 _).mono ?_; rintro e w1 ⟨rfl, rfl⟩
      go_wp2_with fail
      go_ret
      refine ⟨?_, (Below.refl _ _).alloc (Nat.le_refl _) _⟩
      rw [← rightB_in h1 h2 h3 h4]
      rfl
    · go_enter Try.func14, Try.ntmps14
      go_wp2_with fail
      refine (fits_yes r h1 h2 _).mono ?_; rintro e w1 ⟨rfl, rfl⟩
      go_wp2_with fail
      refine (fits_no c (by omega) _).mono ?_; rintro e w1 ⟨rfl, rfl⟩
      go_wp2_with fail
      go_ret
      refine ⟨?_, (Below.refl _ _).alloc (Nat.le_refl _) _⟩
      rw [← rightB_out (by omega)]
      rfl
  · go_enter Try.func14, Try.ntmps14
    go_wp2_with fail
    refine (fits_no r (by omega) _).mono ?_; rintro e w1 ⟨rfl, rfl⟩
    go_wp2_with fail
    go_ret
    refine ⟨?_, (Below.refl _ _).alloc (Nat.le_refl _) _⟩
    rw [← rightB_out (by omega)]
    rfl
end Go.Proofs.Ytccnoflgbopjlaa
