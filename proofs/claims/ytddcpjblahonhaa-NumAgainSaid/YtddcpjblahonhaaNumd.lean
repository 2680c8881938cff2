/-
  Contracts of the document's answer Get.
-/
import Derived.Test.YtddcpjblahonhaaNumc
namespace Go.Proofs.Ytddcpjblahonhaa
open Go.RowKit
set_option linter.unusedVariables false

set_option maxHeartbeats 400000 in
theorem rget_arg (A : Option Addr) (n c : Nat) (at_ m : Int) (w : World) (hn : n ≤ maxLen) (hm : ¬ (1 ≤ m ∧ m ≤ 8) ∨ ¬ (0 ≤ at_ ∧ at_ ≤ n)) :
    Calls Try.prog 11 #[.slice A n c, .int .i64 at_, .int .i64 m] w fun e w' => e = .returned (.tuple #[.int .u64 0, .int .i64 2]) ∧ w = w' := by
  unfold maxLen at hn
  by_cases h1 : m < 1
  · clear hm
    go_enter Try.func11, Try.ntmps11
    go_wp2_with fail
    go_ret2
    exact ⟨rfl, rfl⟩
  by_cases h2 : m > 8
  · clear hm
    go_enter Try.func11, Try.ntmps11
    go_wp2_with fail
    go_ret2
    exact ⟨rfl, rfl⟩
  by_cases h3 : at_ < 0
  · clear hm
    go_enter Try.func11, Try.ntmps11
    go_wp2_with fail
    go_ret2
    exact ⟨rfl, rfl⟩
  have h4 : at_ > n := by omega
  clear hm
  go_enter Try.func11, Try.ntmps11
  go_wp2_with fail
  go_ret2
  exact ⟨rfl, rfl⟩

set_option maxHeartbeats 400000 in
theorem rget_short (A : Option Addr) (n c : Nat) (a : Nat) (m : Int) (w : World) (hn : n ≤ maxLen) (h1 : 1 ≤ m) (h8 : m ≤ 8) (ha : a ≤ n) (hs : (n : Int) - a < m) :
    Calls Try.prog 11 #[.slice A n c, .int .i64 (a : Int), .int .i64 m] w fun e w' => e = .returned (.tuple #[.int .u64 0, .int .i64 5]) ∧ w = w' := by
  unfold maxLen at hn
  have h1' : ¬ m < 1 := by omega
  have h8' : ¬ m > 8 := by omega
  have ha' : ¬ (a : Int) > n := by omega
  go_enter Try.func11, Try.ntmps11
  go_wp2_with fail
  go_ret2
  exact ⟨rfl, rfl⟩

set_option maxHeartbeats 400000 in
theorem rget_ok (A : Option Addr) (n c : Nat) (l : List UInt8) (a m : Nat) (w : World) (h : Sl w 1 A n c (cells l)) (h1 : 1 ≤ m) (h8 : m ≤ 8) (ha : a + m ≤ n) :
    Calls Try.prog 11 #[.slice A n c, .int .i64 (a : Int), .int .i64 (m : Int)] w fun e w' => e = .returned (.tuple #[.int .u64 (leVal ((l.drop a).take m) : Nat), .int .i64 0]) ∧ w = w' := by
  have hn := h.lim
  unfold maxLen at hn
  have h1' : ¬ (m : Int) < 1 := by omega
  have h8' : ¬ (m : Int) > 8 := by omega
  have ha' : ¬ (a : Int) > n := by omega
  have hs : ¬ ((n : Int) - a < m) := by omega
  obtain ⟨b, o, rfl, hc⟩ := h.at_ (k := 0) (by omega)
  go_enter Try.func11, Try.ntmps11
  go_wp2_with fail
  go_loop [8, 9] (fun v i => ∃ (j y : Nat), j ≤ m ∧ i = .int .i64 ((j : Int) - 1) ∧ v = .int .u64 (y : Int) ∧ y = leVal ((l.drop (a + j)).take (m - j))) (fun _ i => (intOf i + 1).toNat)
  case atStart => exact ⟨m, 0, by omega, rfl, rfl, by simp [leVal]⟩
  case round =>
    obtain ⟨j, y, hj, rfl, rfl, hy⟩ := hrel
    have Hy := Lib.hid hy; clear hy
    by_cases hlt : 0 < j
    · obtain ⟨j, rfl⟩ : ∃ i, j = i + 1 := ⟨j - 1, by omega⟩
      obtain ⟨u, hu⟩ : ∃ u, l[a + j]? = some u := ⟨_, List.getElem?_eq_getElem (by have := h.len; rw [cells_length] at this; omega)⟩
      have hcell : w.cell? ⟨b, o + (a + j), none⟩ = some (.int .u8 (u.toNat : Int)) := hc _ _ (by simp [cells, hu, bv])
      have Hu := Lib.hid hu; clear hu
      have hyb : 256 * y + 255 < 2 ^ 64 := by
        have := leVal_lt ((l.drop (a + (j + 1))).take (m - (j + 1)))
        rw [← Hy.out] at this
        have h2 : 256 ^ ((l.drop (a + (j + 1))).take (m - (j + 1))).length ≤ 256 ^ 7 := Nat.pow_le_pow_right (by omega) (by rw [List.length_take]; omega)
        omega
      have hub := u.toNat_lt
      go_wp2_with fail
      go_round
      case rel => exact ⟨j, 256 * y + u.toNat, by omega, rfl, by go_num, by rw [show m - j = (m - (j + 1)) + 1 from by omega, drop_one_less l (a + j) _ u Hu.out, leVal, Hy.out, Nat.add_assoc, Nat.add_comm]⟩
      case measure => simp [intOf] <;> omega
    · go_wp2_with fail
      go_ret2
      obtain rfl : j = 0 := by omega
      exact ⟨by rw [Hy.out]; rfl, rfl⟩
end Go.Proofs.Ytddcpjblahonhaa
