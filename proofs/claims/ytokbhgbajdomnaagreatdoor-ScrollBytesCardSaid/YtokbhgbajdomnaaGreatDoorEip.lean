/-
  Numbers of so many bytes at any place, and what a scroll's bytes are read as. No condition.
-/
import Derived.Test.YtokbhgbajdomnaaGreatDoorKz
import Derived.Test.YtokbhgbajdomnaaGreatDoorEih
namespace Go.Proofs.YtokbhgbajdomnaaGreatDoor
open Go.RowKit
set_option linter.unusedVariables false

/-- What Get answers. -/
def getN16 (l : List UInt8) (at_ m : Int) : Nat × Nat :=
  if ¬ (1 ≤ m ∧ m ≤ 8) ∨ ¬ (0 ≤ at_ ∧ at_ ≤ l.length) then (0, 2)
  else if (l.length : Int) - at_ < m then (0, 5) else (leVal ((l.drop at_.toNat).take m.toNat), 0)

theorem get_any16 (A : Option Addr) (n c : Nat) (l : List UInt8) (at_ m : Int) (w : World) (h : Sl w 1 A n c (cells l)) :
    Calls Tryz.prog 80 #[.slice A n c, .int .i64 at_, .int .i64 m] w fun e w' => e = .returned (.tuple #[.int .u64 ((getN16 l at_ m).1 : Nat), .int .i64 ((getN16 l at_ m).2 : Nat)]) ∧ w = w' := by
  have hl := h.len
  rw [cells_length, Nat.mul_one] at hl
  unfold getN16
  rw [hl]
  by_cases hm : 1 ≤ m ∧ m ≤ 8
  · by_cases ha : 0 ≤ at_ ∧ at_ ≤ n
    · rw [if_neg (fun hh => hh.elim (fun x => x hm) (fun x => x ha))]
      obtain ⟨a, rfl⟩ := Int.eq_ofNat_of_zero_le ha.1
      obtain ⟨k, rfl⟩ := Int.eq_ofNat_of_zero_le (show 0 ≤ m by omega)
      by_cases hs : (n : Int) - a < k
      · rw [if_pos hs]
        exact get_short A n c a k w h.lim hm.1 hm.2 (by omega) hs
      · rw [if_neg hs]
        exact get_ok A n c l a k w h (by omega) (by omega) (by omega)
    · rw [if_pos (.inr ha)]
      exact get_place A n c at_ m w h.lim hm.1 hm.2 ha
  · rw [if_pos (.inl hm)]
    exact get_width A n c at_ m w hm

theorem rget_any16 (A : Option Addr) (n c : Nat) (l : List UInt8) (at_ m : Int) (w : World) (h : Sl w 1 A n c (cells l)) :
    Calls Tryz.prog 73 #[.slice A n c, .int .i64 at_, .int .i64 m] w fun e w' => e = .returned (.tuple #[.int .u64 ((getN16 l at_ m).1 : Nat), .int .i64 ((getN16 l at_ m).2 : Nat)]) ∧ w = w' := by
  have hl := h.len
  rw [cells_length, Nat.mul_one] at hl
  unfold getN16
  rw [hl]
  by_cases hbad : ¬ (1 ≤ m ∧ m ≤ 8) ∨ ¬ (0 ≤ at_ ∧ at_ ≤ n)
  · rw [if_pos hbad]
    exact rget_arg A n c at_ m w h.lim hbad
  · rw [if_neg hbad]
    have hm : 1 ≤ m ∧ m ≤ 8 := Decidable.not_not.1 fun h' => hbad (.inl h')
    have ha : 0 ≤ at_ ∧ at_ ≤ n := Decidable.not_not.1 fun h' => hbad (.inr h')
    obtain ⟨a, rfl⟩ := Int.eq_ofNat_of_zero_le ha.1
    obtain ⟨k, rfl⟩ := Int.eq_ofNat_of_zero_le (show 0 ≤ m by omega)
    by_cases hs : (n : Int) - a < k
    · rw [if_pos hs]
      exact rget_short A n c a k w h.lim hm.1 hm.2 (by omega) hs
    · rw [if_neg hs]
      exact rget_ok A n c l a k w h (by omega) (by omega) (by omega)

/-- A number of so many bytes that was put is read. -/
theorem getN16_le (p r : List UInt8) (k n : Nat) (h1 : 1 ≤ k) (h8 : k ≤ 8) : getN16 (p ++ le k n ++ r) (p.length : Nat) (k : Nat) = (n % 256 ^ k, 0) := by
  unfold getN16
  rw [if_neg (by simp; omega), if_neg (by simp [le_length]; omega)]
  rw [Int.toNat_natCast, Int.toNat_natCast, List.append_assoc, List.drop_left]
  have : (le k n ++ r).take k = le k n := by
    have h := List.take_left (l₁ := le k n) (l₂ := r)
    rwa [le_length] at h
  rw [this, leVal_le]

theorem getN16_lt (l : List UInt8) (at_ : Int) (m : Nat) : (getN16 l at_ (m : Int)).1 < 256 ^ m := by
  unfold getN16
  have p : 0 < 256 ^ m := Nat.pow_pos (by decide)
  split
  · exact p
  · split
    · exact p
    · rw [Int.toNat_natCast]
      exact Nat.lt_of_lt_of_le (leVal_lt _) (Nat.pow_le_pow_right (by decide) (by rw [List.length_take]; omega))
theorem getN16_two (l : List UInt8) (at_ m : Int) : (getN16 l at_ m).2 = 0 ∨ (getN16 l at_ m).2 = 2 ∨ (getN16 l at_ m).2 = 5 := by
  unfold getN16
  split
  · exact .inr (.inl rfl)
  · split
    · exact .inr (.inr rfl)
    · exact .inl rfl
theorem getN16_in {l : List UInt8} {at_ m : Int} (h : (getN16 l at_ m).2 = 0) : 0 ≤ at_ ∧ at_ + m ≤ l.length := by
  unfold getN16 at h
  split at h
  · cases h
  · rename_i h1
    split at h
    · cases h
    · rename_i h2
      exact ⟨by omega, by omega⟩
/-- What GetBytes answers: four numbers and an error. -/
def gB16 (l : List UInt8) (a : Int) : Nat × Nat × Nat × Nat × Nat :=
  if (getN16 l a 2).2 ≠ 0 then (0, 0, 0, 0, (getN16 l a 2).2)
  else if (getN16 l (a + 2) 8).2 ≠ 0 then (0, 0, 0, 0, (getN16 l (a + 2) 8).2)
  else if (getN16 l (a + 10) 2).2 ≠ 0 then (0, 0, 0, 0, (getN16 l (a + 10) 2).2)
  else if (getN16 l (a + 12) 4).2 ≠ 0 then (0, 0, 0, 0, (getN16 l (a + 12) 4).2)
  else ((getN16 l a 2).1, (getN16 l (a + 2) 8).1, (getN16 l (a + 10) 2).1, (getN16 l (a + 12) 4).1, 0)

theorem scB_eq (p : List UInt8) (a : Int) (g : Nat) (c z : Int) : gB16 (p ++ scB a g c z) (p.length : Nat) = (u64N a % 65536, g % 18446744073709551616, u64N c % 65536, u64N z % 4294967296, 0) := by
  have e : p ++ scB a g c z = p ++ le 2 (u64N a) ++ (le 8 g ++ le 2 (u64N c) ++ le 4 (u64N z)) := by simp [scB, nameL]
  have e2 : p ++ scB a g c z = (p ++ le 2 (u64N a)) ++ le 8 g ++ (le 2 (u64N c) ++ le 4 (u64N z)) := by simp [scB, nameL]
  have e3 : p ++ scB a g c z = (p ++ le 2 (u64N a) ++ le 8 g) ++ le 2 (u64N c) ++ (le 4 (u64N z)) := by simp [scB, nameL]
  have e4 : p ++ scB a g c z = (p ++ le 2 (u64N a) ++ le 8 g ++ le 2 (u64N c)) ++ le 4 (u64N z) ++ [] := by simp [scB, nameL]
  have h1 : getN16 (p ++ scB a g c z) (p.length : Nat) 2 = (u64N a % 65536, 0) := by
    rw [e]; exact getN16_le p _ 2 (u64N a) (by decide) (by decide)
  have h2 : getN16 (p ++ scB a g c z) ((p.length : Nat) + 2) 8 = (g % 18446744073709551616, 0) := by
    rw [e2]
    have h := getN16_le (p ++ le 2 (u64N a)) (le 2 (u64N c) ++ le 4 (u64N z)) 8 g (by decide) (by decide)
    rw [List.length_append, le_length] at h
    exact h
  have h3 : getN16 (p ++ scB a g c z) ((p.length : Nat) + 10) 2 = (u64N c % 65536, 0) := by
    rw [e3]
    have h := getN16_le (p ++ le 2 (u64N a) ++ le 8 g) (le 4 (u64N z)) 2 (u64N c) (by decide) (by decide)
    rw [List.length_append, List.length_append, le_length, le_length] at h
    exact h
  have h4 : getN16 (p ++ scB a g c z) ((p.length : Nat) + 12) 4 = (u64N z % 4294967296, 0) := by
    rw [e4]
    have h := getN16_le (p ++ le 2 (u64N a) ++ le 8 g ++ le 2 (u64N c)) [] 4 (u64N z) (by decide) (by decide)
    rw [List.length_append, List.length_append, List.length_append, le_length, le_length, le_length] at h
    exact h
  unfold gB16
  rw [h1, h2, h3, h4]
  rfl
end Go.Proofs.YtokbhgbajdomnaaGreatDoor
