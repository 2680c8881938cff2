/-
  Layer 13, as plain data: the rows that are read of a stripe's good shards ('got'), what decodes of them, and how many they are. Nothing of the program.
-/
import Derived.Test.YtajdholblmdnjaaGreatDoorEce
import Derived.Test.YtajdholblmdnjaaGreatDoorHh
set_option linter.unusedVariables false
namespace Go.Proofs.YtajdholblmdnjaaGreatDoor
open Go.RowKit Go.Proofs
def got (k n p : Nat) (b : List UInt8) (G : Nat → Bool) : List (List UInt8) := (List.range n).map fun i => if G (homeN n p i) = true then row13 k b i else []
section
variable {k m n p : Nat} {b : List UInt8} {G : Nat → Bool}
theorem got_len : (got k n p b G).length = n := by simp [got]
theorem got_at {i : Nat} (hi : i < n) : (got k n p b G).getD i [] = if G (homeN n p i) = true then row13 k b i else [] := by simp [got, hi]
theorem got_rows (hk : 1 ≤ k) : ∀ r ∈ got k n p b G, r.length ≤ 44 := by
 intro r hr
 obtain ⟨i, _, rfl⟩ := List.mem_map.1 hr
 split
 ·rw [row13_len hk]; exact Nat.le_refl _
 ·exact Nat.zero_le _
theorem got_pos (hk : 1 ≤ k) {i : Nat} (hi : i < n) : 0 < ((got k n p b G).getD i []).length ↔ G (homeN n p i) = true := by
 rw [got_at hi]
 by_cases h : G (homeN n p i) = true
 ·rw [if_pos h, row13_len hk]; simp [h]
 ·rw [if_neg h]; simp [h]
theorem got_there (hk : 1 ≤ k) : (thereL (got k n p b G) n).length = cntG n G := by
 rw [← cntG_home n p G]
 unfold thereL cntG
 rw [List.countP_eq_length_filter]
 congr 1
 refine List.filter_congr fun i hi => ?_
 have h := got_pos (k := k) (p := p) (b := b) (G := G) hk (List.mem_range.1 hi)
 rw [Bool.eq_iff_iff, decide_eq_true_iff]
 exact h
theorem got_row (hk : 1 ≤ k) {a : Nat} (ha : a < (thereL (got k n p b G) n).length) : (got k n p b G).getD ((thereL (got k n p b G) n).getD a 0) [] = row13 k b ((thereL (got k n p b G) n).getD a 0) := by
 have hl := thereL_lt ha
 have hg := (got_pos hk hl).1 (thereL_pos ha)
 rw [got_at hl, if_pos hg]
theorem got_right (hk : 1 ≤ k) (hG : k ≤ cntG (k + m) G) : rightX k m (got k (k + m) p b G) = 0 := by
 have he := got_there (k := k) (n := k + m) (p := p) (b := b) (G := G) hk
 have hl : (got k (k + m) p b G).length = k + m := got_len
 have hlv : levelT (got k (k + m) p b G) = true := decide_eq_true fun a ha => by
  rw [hl] at ha ⊢
  rw [got_row hk ha, got_row hk (by omega), row13_len hk, row13_len hk]
 rw [rightX, if_neg (by rw [hl]; simp), if_neg (by rw [hlv]; decide), hl, if_neg (by omega)]
theorem cut_wid (hk : 1 ≤ k) : ((cutL b 44 k).getD 0 []).length = 44 := by rw [cut_getD _ _ _ _ (by omega), cutR_length]
theorem cut_level : levelB (cutL b 44 k) = true := by
 refine decide_eq_true fun j hj => ?_
 rw [cutL_length] at hj
 rw [cut_getD _ _ _ _ hj, cut_getD _ _ _ _ (by omega), cutR_length, cutR_length]
theorem got_data (hk : 1 ≤ k) (hG : k ≤ cntG (k + m) G) {X : Mx} (hX : Alike k k (mm k X (facM k ((thereL (got k (k + m) p b G) (k + m)).take k))) one) :
  dataL k ((got k (k + m) p b G).getD ((thereL (got k (k + m) p b G) (k + m)).getD 0 0) []).length (solD k X (got k (k + m) p b G) ((thereL (got k (k + m) p b G) (k + m)).take k)) = cutL b 44 k := by
 have he := got_there (k := k) (n := k + m) (p := p) (b := b) (G := G) hk
 rw [got_row hk (by omega), row13_len hk]
 exact data_back (cutL_length _ _ _) cut_level (cut_wid hk) hX fun a ha => by
  rw [take_getD ha]
  exact got_row hk (by omega)
theorem got_all : fillL (got k n p b G) (shard k (cutL b 44 k)) n = allL k (cutL b 44 k) n := by
 apply List.ext_getElem?
 intro i
 by_cases hi : i < n
 ·have e2 : (allL k (cutL b 44 k) n)[i]? = some (shard k (cutL b 44 k) i) := by simp [allL, hi]
  rw [fillL_get _ _ _ _ (by rw [got_len]; exact hi), e2, got_at hi]
  by_cases hz : G (homeN n p i) = true
  ·rw [if_pos hz]
   split <;> rfl
  ·rw [if_neg hz, if_pos ⟨hi, rfl⟩]
 ·rw [List.getElem?_eq_none (by rw [fillL_length, got_len]; omega), List.getElem?_eq_none (by rw [allL_length]; omega)]
theorem allL_row {i : Nat} (hi : i < n) : (allL k (cutL b 44 k) n)[i]? = some (row13 k b i) := by simp [allL, hi, row13]
theorem join_back (h : b.length ≤ 44 * k) : (cutL b 44 k).flatten.take b.length = b := cut_back b 44 k (by omega)
end
end Go.Proofs.YtajdholblmdnjaaGreatDoor
