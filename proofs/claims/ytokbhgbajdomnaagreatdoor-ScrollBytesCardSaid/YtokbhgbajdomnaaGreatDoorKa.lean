/-
  Plain mathematics of numbers as bytes: bytes the lowest first ('le', 'leVal'). No program, no condition. And what goes with it below the laws of layer 13. No condition but what each theorem says.
-/
import Derived.Laws.BitsAllLaws
import Derived.Laws.Shifts
import Derived.Test.YtokbhgbajdomnaaGreatDoorProg
import Derived.Test.YtokbhgbajdomnaaGreatDoorGa
import Derived.Deep.QuietTactic
import Derived.BigQuiet
set_option linter.unusedVariables false
set_option maxHeartbeats 400000
namespace Go.Proofs.YtokbhgbajdomnaaGreatDoor
section
def le : Nat → Nat → List UInt8
 | 0, _ => []
 | k + 1, x => le k x ++ [UInt8.ofNat (x / 256 ^ k)]
theorem le_length : ∀ k x, (le k x).length = k
 | 0, _ => rfl
 | k + 1, x => by simp [le, le_length k x]
def leVal : List UInt8 → Nat
 | [] => 0
 | u :: r => u.toNat + 256 * leVal r
theorem leVal_append : ∀ p q, leVal (p ++ q) = leVal p + 256 ^ p.length * leVal q
 | [], q => by simp [leVal]
 | u :: r, q => by
  simp only [List.cons_append, leVal, leVal_append r q, List.length_cons, Nat.pow_succ]
  rw [Nat.mul_add, ← Nat.mul_assoc, Nat.mul_comm 256 (256 ^ r.length)]
  omega
theorem leVal_lt : ∀ p, leVal p < 256 ^ p.length
 | [] => by simp [leVal]
 | u :: r => by
  have h := leVal_lt r
  have hu := u.toNat_lt
  simp only [leVal, List.length_cons, Nat.pow_succ]
  omega
theorem leVal_le : ∀ k x, leVal (le k x) = x % 256 ^ k
 | 0, x => by simp [le, leVal, Nat.mod_one]
 | k + 1, x => by
  rw [le, leVal_append, leVal_le k x, le_length, Nat.pow_succ, Nat.mod_mul]
  simp [leVal, UInt8.toNat_ofNat']
theorem le_byte_at (x k : Nat) : (x : Int) / 2 ^ (8 * k) % 256 = ((UInt8.ofNat (x / 256 ^ k)).toNat : Int) := by
 rw [UInt8.toNat_ofNat', show (256 : Nat) = 2 ^ 8 from rfl, ← Nat.pow_mul]
 simp
theorem or_high (p : List UInt8) (u : UInt8) (k : Nat) (hk : p.length = k) (h8 : k < 8) :
  bits .or .u64 ((leVal p : Nat) : Int) (IntKind.u64.wrap (IntKind.u64.wrap (u.toNat : Int) * 2 ^ (8 * k))) = ((leVal (p ++ [u]) : Nat) : Int) := by
 have hp := leVal_lt p
 have hu := u.toNat_lt
 rw [hk] at hp
 have e1 : IntKind.u64.wrap (u.toNat : Int) = (u.toNat : Int) := by rw [IntKind.wrap_u64]; omega
 have hb : u.toNat * 2 ^ (8 * k) < 18446744073709551616 := by
  have : 2 ^ (8 * k) ≤ 2 ^ 56 := Nat.pow_le_pow_right (by omega) (by omega)
  calc u.toNat * 2 ^ (8 * k) ≤ u.toNat * 2 ^ 56 := Nat.mul_le_mul_left _ this
   _ < 18446744073709551616 := by omega
 have e2 : IntKind.u64.wrap ((u.toNat : Int) * 2 ^ (8 * k)) = ((u.toNat * 2 ^ (8 * k) : Nat) : Int) := by
  have : (u.toNat : Int) * 2 ^ (8 * k) = ((u.toNat * 2 ^ (8 * k) : Nat) : Int) := by simp
  rw [this, IntKind.wrap_u64]
  omega
 have hp2 : leVal p < 2 ^ (8 * k) := by rw [Nat.pow_mul]; exact hp
 have hl : leVal p < 18446744073709551616 := by
  have : 2 ^ (8 * k) ≤ 2 ^ 56 := Nat.pow_le_pow_right (by omega) (by omega)
  omega
 rw [e1, e2, u64_or_nat _ _ hl hb, Nat.or_comm, Nat.mul_comm, ← Nat.two_pow_add_eq_or_of_lt hp2, leVal_append, hk]
 simp only [leVal, Nat.mul_zero, Nat.add_zero]
 rw [show (256 : Nat) ^ k = 2 ^ (8 * k) from by rw [Nat.pow_mul]]
 omega
theorem take_one_more {α : Type} (l : List α) (a k : Nat) (u : α) (h : l[a + k]? = some u) : (l.drop a).take (k + 1) = (l.drop a).take k ++ [u] := by
 rw [List.take_add_one, List.getElem?_drop, h]
 rfl
theorem take_length_of {α : Type} (l : List α) (a k n : Nat) (h : l.length = n) (hk : a + k ≤ n) : ((l.drop a).take k).length = k := by
 rw [List.length_take, List.length_drop]
 omega
end
section
open Go.RowKit
theorem nfits_yes (n : Int) (h1 : 1 ≤ n) (h2 : n ≤ 8) (w : World) : Calls Tryz.prog 119 #[.int .i64 n] w fun e w' => e = .returned (.bool true) ∧ w = w' := by
 go_enter Tryz.func119, Tryz.ntmps119
 go_wp2
 go_ret
 exact ⟨rfl, rfl⟩
theorem nfits_no (n : Int) (h : ¬ (1 ≤ n ∧ n ≤ 8)) (w : World) : Calls Tryz.prog 119 #[.int .i64 n] w fun e w' => e = .returned (.bool false) ∧ w = w' := by
 by_cases h1 : 1 ≤ n
 ·have h2 : ¬ (n ≤ 8) := fun h2 => h ⟨h1, h2⟩
  clear h
  go_enter Tryz.func119, Tryz.ntmps119
  go_wp2
  go_ret
  exact ⟨rfl, rfl⟩
 ·clear h
  go_enter Tryz.func119, Tryz.ntmps119
  go_wp2
  go_ret
  exact ⟨rfl, rfl⟩
theorem inside_yes (A : Option Addr) (n c : Nat) (at_ : Int) (hn : n ≤ maxLen) (h0 : 0 ≤ at_) (h1 : at_ ≤ n) (w : World) :
  Calls Tryz.prog 123 #[.slice A n c, .int .i64 at_] w fun e w' => e = .returned (.bool true) ∧ w = w' := by
 unfold maxLen at hn
 go_enter Tryz.func123, Tryz.ntmps123
 go_wp2
 go_ret
 exact ⟨rfl, rfl⟩
theorem cut_any (A : Option Addr) (n c : Nat) (h : n ≤ c) (hc : c ≤ maxLen) (w : World) :
  Calls Tryz.prog 120 #[.slice A n c] w fun e w' => e = .returned (.slice A n n) ∧ w = w' := by
 unfold maxLen at hc
 go_enter Tryz.func120, Tryz.ntmps120
 go_wp2
 go_ret
 exact ⟨rfl, rfl⟩
end
section
open Go.RowKit
theorem put_yes (A : Option Addr) (n c : Nat) (l : List UInt8) (m : Nat) (x : Nat) (w : World) (h : Sl w 1 A n c (cells l)) (h47 : n ≤ 140737488355320) (hm1 : 1 ≤ m) (hm8 : m ≤ 8) (hx : x < 2 ^ 64) :
  Calls Tryz.prog 78 #[.slice A n c, .int .i64 (m : Int), .int .u64 (x : Int)] w (RetBytes w.heap.size w (l ++ le m x)) := by
 go_enter Tryz.func78, Tryz.ntmps78
 go_wp2_with fail
 refine (nfits_yes (m : Int) (by omega) (by omega) _).mono ?_; rintro e w' ⟨rfl, rfl⟩
 go_wp2_with fail
 refine (cut_any A n c h.cap h.top _).mono ?_; rintro e w' ⟨rfl, rfl⟩
 go_wp2_with fail
 go_loopw [7, 18] (fun v i wr => ∃ (k : Nat) (A' : Option Addr) (n' c' : Nat), k ≤ m ∧ i = .int .i64 (k : Int) ∧ v = .slice A' n' c' ∧ Own wr w.heap.size 5 1 A' n' c' (cells (l ++ le k x)) ∧ Below w.heap.size w wr) (fun _ i _ => m - (intOf i).toNat)
 case atStart => exact ⟨0, A, n, n, by omega, rfl, rfl, by simpa [le] using Own.full (h.recap (Nat.le_refl _) h.lim), Below.refl _ _⟩
 case round =>
  obtain ⟨k, A', n', c', hk, rfl, rfl, ho, hb⟩ := hrel
  by_cases hlt : k < m
  ·have hb8 := le_byte_at x k
   have hlen := ho.sl.len
   rw [cells_length, List.length_append, le_length] at hlen
   have hl := h.len
   rw [cells_length] at hl
   have Hb := qH hb8; clear hb8
   have Hl := qH hlen; clear hlen
   have Hl2 := qH hl; clear hl
   go_wp2_with (at_builtin; refine wpList_append_b (B := w.heap.size) rfl (.tmp 21) (.tmp 27) rfl rfl (ho.alloc _) ?c1 (some ⟨wr.heap.size, 0, none⟩) 1 1 [UInt8.ofNat (x / 256 ^ k)] rfl (Sl.one _ _ _ _ Hb.out) ?c3 ?c4)
   case c1 => have := hb.size; simp; omega
   case c3 => have := Hl.out; have := Hl2.out; omega
   intro A2 c2 w2 ho2 hb2
   go_wp2_with fail
   go_roundw
   case rel => exact ⟨k + 1, A2, n' + 1, c2, by omega, by go_num, rfl, by simpa [le, cells_append, List.append_assoc] using ho2, (hb.alloc hb.size _).trans hb2⟩
   case measure => simp [intOf]; omega
  ·go_wp2_with fail
   refine (cut_any A' n' c' ho.sl.cap ho.sl.top _).mono ?_; rintro e w' ⟨rfl, rfl⟩
   go_wp2_with fail
   go_ret
   obtain rfl : k = m := by omega
   exact ⟨A', n', n', rfl, ho.sl.recap (Nat.le_refl _) ho.sl.lim, hb⟩
end
section
open Go.RowKit
theorem get_ok (A : Option Addr) (n c : Nat) (l : List UInt8) (a m : Nat) (w : World) (h : Sl w 1 A n c (cells l)) (h1 : 1 ≤ m) (h8 : m ≤ 8) (ha : a + m ≤ n) :
  Calls Tryz.prog 80 #[.slice A n c, .int .i64 (a : Int), .int .i64 (m : Int)] w fun e w' => e = .returned (.tuple #[.int .u64 (leVal ((l.drop a).take m) : Nat), .int .i64 0]) ∧ w = w' := by
 have hn := h.lim
 have hn' := hn
 unfold maxLen at hn'
 go_enter Tryz.func80, Tryz.ntmps80
 go_wp2_with fail
 refine (nfits_yes (m : Int) (by omega) (by omega) _).mono ?_; rintro e w' ⟨rfl, rfl⟩
 go_wp2_with fail
 refine (inside_yes A n c (a : Int) hn (by omega) (by omega) _).mono ?_; rintro e w' ⟨rfl, rfl⟩
 have hs : ¬ ((n : Int) - a < m) := by omega
 go_wp2_with fail
 obtain ⟨b, o, rfl, hc⟩ := h.at_ (k := 0) (by omega)
 go_loop [8, 26] (fun v i => ∃ k : Nat, k ≤ m ∧ i = .int .i64 (k : Int) ∧ v = .int .u64 (leVal ((l.drop a).take k) : Nat)) (fun _ i => m - (intOf i).toNat)
 case atStart => exact ⟨0, by omega, rfl, rfl⟩
 case round =>
  obtain ⟨k, hk, rfl, rfl⟩ := hrel
  by_cases hlt : k < m
  ·obtain ⟨u, hu⟩ : ∃ u, l[a + k]? = some u := ⟨_, List.getElem?_eq_getElem (by have := h.len; rw [cells_length] at this; omega)⟩
   have hcell : w.cell? ⟨b, o + (a + k), none⟩ = some (.int .u8 (u.toNat : Int)) := hc _ _ (by simp [cells, hu, bv])
   have Hu := qH hu; clear hu
   go_wp2_with fail
   go_round
   case rel => exact ⟨k + 1, by omega, by go_num, by rw [or_high _ u k (take_length_of l a k n (by have := h.len; rw [cells_length] at this; omega) (by omega)) (by omega), take_one_more l a k u Hu.out]⟩
   case measure => simp [intOf]; omega
  ·go_wp2_with fail
   go_ret2
   obtain rfl : k = m := by omega
   exact ⟨rfl, rfl⟩
end
section
open Go.RowKit
end
end Go.Proofs.YtokbhgbajdomnaaGreatDoor
