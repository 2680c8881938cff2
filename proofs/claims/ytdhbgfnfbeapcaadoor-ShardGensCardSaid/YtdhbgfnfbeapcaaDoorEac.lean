/-
  Contracts of package shard's known, Gen, Epoch, Is and of the document's Gen, Is. No condition but bounds.
-/
import Derived.Test.YtdhbgfnfbeapcaaDoorEab
namespace Go.Proofs.YtdhbgfnfbeapcaaDoor
open Go.RowKit Go.Proofs
set_option linter.unusedVariables false

/-- What a generation is, and its error. -/
def genE (a : Nat) (n : Int) : Nat := if a < 1099511627776 ∧ 0 ≤ n ∧ n < 1048576 then 0 else 2
def genN (a : Nat) (n : Int) : Nat := if a < 1099511627776 ∧ 0 ≤ n ∧ n < 1048576 then a * 1048576 + n.toNat else 0
theorem gen_fine {a : Nat} {n : Int} (h : genE a n = 0) : a < 1099511627776 ∧ 0 ≤ n ∧ n < 1048576 := by
  unfold genE at h
  split at h
  · assumption
  · cases h
theorem genN_fine {a : Nat} {n : Int} (h : genE a n = 0) : genN a n = a * 1048576 + n.toNat := by rw [genN, if_pos (gen_fine h)]
theorem genN_lt (a : Nat) (n : Int) : genN a n < 18446744073709551616 := by
  unfold genN
  split
  · omega
  · omega
/-- Is a shard the one of that index of the stripe that is named? -/
def isB (s : Sh) (k : UInt8) (p : Int) (g : Nat) (i : Int) : Bool := decide (s.kind = k ∧ (s.place : Int) = p ∧ s.gen = g ∧ (s.idx.toNat : Int) = i)
theorem beq_dec (a b : Int) : (a == b) = decide (a = b) := by
  by_cases h : a = b
  · rw [decide_eq_true h, beq_iff_eq]; exact h
  · rw [decide_eq_false h, beq_eq_false_iff_ne]; exact h

set_option maxRecDepth 20000
set_option maxHeartbeats 800000
theorem known_any (k : UInt8) (w : World) : Calls Tryd.prog 18 #[.int .u8 (k.toNat : Int)] w fun e w' => e = .returned (.bool (decide (1 ≤ k.toNat) && decide (k.toNat ≤ 4))) ∧ w = w' := by
  have hk := k.toNat_lt
  by_cases h1 : 1 ≤ k.toNat
  · have h1i : (1 : Int) ≤ (k.toNat : Int) := by omega
    by_cases h2 : k.toNat ≤ 4
    · have h2i : (k.toNat : Int) ≤ 4 := by omega
      rw [decide_eq_true h1, decide_eq_true h2]
      clear h1 h2
      go_enter Tryd.func18, Tryd.ntmps18
      go_wp2_with fail
      go_ret
      exact ⟨rfl, rfl⟩
    · have h2i : ¬ (k.toNat : Int) ≤ 4 := by omega
      rw [decide_eq_true h1, decide_eq_false h2]
      clear h1 h2
      go_enter Tryd.func18, Tryd.ntmps18
      go_wp2_with fail
      go_ret
      exact ⟨rfl, rfl⟩
  · have h1i : ¬ (1 : Int) ≤ (k.toNat : Int) := by omega
    rw [decide_eq_false h1, Bool.false_and]
    clear h1
    go_enter Tryd.func18, Tryd.ntmps18
    go_wp2_with fail
    go_ret
    exact ⟨rfl, rfl⟩
theorem epoch_any (g : Nat) (hg : g < 18446744073709551616) (w : World) : Calls Tryd.prog 17 #[.int .u64 (g : Int)] w fun e w' => e = .returned (.int .u64 ((g / 1048576 : Nat) : Int)) ∧ w = w' := by
  go_enter Tryd.func17, Tryd.ntmps17
  go_wp2_with fail
  go_ret
  refine ⟨?_, rfl⟩
  congr 2
  try omega
theorem gen_any (a : Nat) (n : Int) (ha : a < 18446744073709551616) (h1 : -9223372036854775808 ≤ n) (h2 : n < 9223372036854775808) (w : World) :
    Calls Tryd.prog 15 #[.int .u64 (a : Int), .int .i64 n] w fun e w' => e = .returned (.tuple #[.int .u64 (genN a n : Int), .int .i64 (genE a n : Int)]) ∧ w = w' := by
  by_cases ga : a < 1099511627776
  · have d1 : ¬ (a : Int) ≥ 1099511627776 := by omega
    by_cases g1 : 0 ≤ n
    · have d2 : ¬ n < 0 := by omega
      by_cases g2 : n < 1048576
      · have d3 : ¬ n ≥ 1048576 := by omega
        have hE : genE a n = 0 := by rw [genE, if_pos ⟨ga, g1, g2⟩]
        have hN : genN a n = a * 1048576 + n.toNat := by rw [genN, if_pos ⟨ga, g1, g2⟩]
        rw [hE, hN]
        obtain ⟨m, rfl⟩ : ∃ m : Nat, n = (m : Int) := ⟨n.toNat, by omega⟩
        clear hE hN ga g1 g2 ha
        go_enter Tryd.func15, Tryd.ntmps15
        go_wp2_with fail
        go_ret2
        exact ⟨ret2_eq (by omega) rfl, rfl⟩
      · have d3 : n ≥ 1048576 := by omega
        have hE : genE a n = 2 := by rw [genE, if_neg (by omega)]
        have hN : genN a n = 0 := by rw [genN, if_neg (by omega)]
        rw [hE, hN]
        clear hE hN ga g1 g2 ha
        go_enter Tryd.func15, Tryd.ntmps15
        go_wp2_with fail
        go_ret2
        exact ⟨rfl, rfl⟩
    · have d2 : n < 0 := by omega
      have hE : genE a n = 2 := by rw [genE, if_neg (by omega)]
      have hN : genN a n = 0 := by rw [genN, if_neg (by omega)]
      rw [hE, hN]
      clear hE hN ga g1 ha
      go_enter Tryd.func15, Tryd.ntmps15
      go_wp2_with fail
      go_ret2
      exact ⟨rfl, rfl⟩
  · have d1 : (a : Int) ≥ 1099511627776 := by omega
    have hE : genE a n = 2 := by rw [genE, if_neg (by omega)]
    have hN : genN a n = 0 := by rw [genN, if_neg (by omega)]
    rw [hE, hN]
    clear hE hN ga ha
    go_enter Tryd.func15, Tryd.ntmps15
    go_wp2_with fail
    go_ret2
    exact ⟨rfl, rfl⟩
theorem rgen_any (a : Nat) (n : Int) (ha : a < 18446744073709551616) (h1 : -9223372036854775808 ≤ n) (h2 : n < 9223372036854775808) (w : World) :
    Calls Tryd.prog 16 #[.int .u64 (a : Int), .int .i64 n] w fun e w' => e = .returned (.tuple #[.int .u64 (genN a n : Int), .int .i64 (genE a n : Int)]) ∧ w = w' := by
  by_cases ga : a < 1099511627776
  · have d1 : ¬ (a : Int) ≥ 1099511627776 := by omega
    by_cases g1 : 0 ≤ n
    · have d2 : ¬ n < 0 := by omega
      by_cases g2 : n < 1048576
      · have d3 : ¬ n ≥ 1048576 := by omega
        have hE : genE a n = 0 := by rw [genE, if_pos ⟨ga, g1, g2⟩]
        have hN : genN a n = a * 1048576 + n.toNat := by rw [genN, if_pos ⟨ga, g1, g2⟩]
        rw [hE, hN]
        obtain ⟨m, rfl⟩ : ∃ m : Nat, n = (m : Int) := ⟨n.toNat, by omega⟩
        clear hE hN ga g1 g2 ha
        go_enter Tryd.func16, Tryd.ntmps16
        go_wp2_with fail
        go_ret2
        exact ⟨ret2_eq (by omega) rfl, rfl⟩
      · have d3 : n ≥ 1048576 := by omega
        have hE : genE a n = 2 := by rw [genE, if_neg (by omega)]
        have hN : genN a n = 0 := by rw [genN, if_neg (by omega)]
        rw [hE, hN]
        clear hE hN ga g1 g2 ha
        go_enter Tryd.func16, Tryd.ntmps16
        go_wp2_with fail
        go_ret2
        exact ⟨rfl, rfl⟩
    · have d2 : n < 0 := by omega
      have hE : genE a n = 2 := by rw [genE, if_neg (by omega)]
      have hN : genN a n = 0 := by rw [genN, if_neg (by omega)]
      rw [hE, hN]
      clear hE hN ga g1 ha
      go_enter Tryd.func16, Tryd.ntmps16
      go_wp2_with fail
      go_ret2
      exact ⟨rfl, rfl⟩
  · have d1 : (a : Int) ≥ 1099511627776 := by omega
    have hE : genE a n = 2 := by rw [genE, if_neg (by omega)]
    have hN : genN a n = 0 := by rw [genN, if_neg (by omega)]
    rw [hE, hN]
    clear hE hN ga ha
    go_enter Tryd.func16, Tryd.ntmps16
    go_wp2_with fail
    go_ret2
    exact ⟨rfl, rfl⟩
theorem bs_u8 (a b : UInt8) : ((a.toNat : Int) == (b.toNat : Int)) = decide (a = b) := by
  rw [beq_dec]
  congr 1
  rw [eq_iff_iff]
  exact ⟨fun h => UInt8.toNat_inj.1 (by omega), fun h => by rw [h]⟩
theorem bs_nat (a b : Nat) : ((a : Int) == (b : Int)) = decide (a = b) := by
  rw [beq_dec]
  congr 1
  rw [eq_iff_iff]
  omega
end Go.Proofs.YtdhbgfnfbeapcaaDoor
