/-
  Contracts of package num's Put and Get. Condition: slices shorter than 2^47 less 8.
-/
import Derived.Test.YtddcpjblahonhaaNuma
import Derived.Test.YtddcpjblahonhaaMath
namespace Go.Proofs.Ytddcpjblahonhaa
open Go.RowKit
set_option linter.unusedVariables false

set_option maxHeartbeats 400000 in
theorem put_no (A : Option Addr) (n c : Nat) (l : List UInt8) (m : Int) (x : Int) (w : World) (h : Sl w 1 A n c (cells l)) (h47 : n ≤ 140737488355320) (hm : ¬ (1 ≤ m ∧ m ≤ 8)) :
    Calls Try.prog 9 #[.slice A n c, .int .i64 m, .int .u64 x] w (RetBytes w.heap.size w l) := by
  go_enter Try.func9, Try.ntmps9
  go_wp2_with fail
  refine (fits_no m hm _).mono ?_; rintro e w' ⟨rfl, rfl⟩
  go_wp2_with fail
  refine (clone_any A n c l _ h (by omega)).mono ?_; rintro e w1 ⟨A1, n1, c1, rfl, h1, hb⟩
  go_wp2_with fail
  refine (cut_any A1 n1 c1 h1.cap h1.top _).mono ?_; rintro e w2 ⟨rfl, rfl⟩
  go_wp2_with fail
  go_ret
  exact ⟨A1, n1, n1, rfl, h1.recap (Nat.le_refl _) h1.lim, hb⟩

set_option maxHeartbeats 400000 in
theorem put_yes (A : Option Addr) (n c : Nat) (l : List UInt8) (m : Nat) (x : Nat) (w : World) (h : Sl w 1 A n c (cells l)) (h47 : n ≤ 140737488355320) (hm1 : 1 ≤ m) (hm8 : m ≤ 8) (hx : x < 2 ^ 64) :
    Calls Try.prog 9 #[.slice A n c, .int .i64 (m : Int), .int .u64 (x : Int)] w (RetBytes w.heap.size w (l ++ le m x)) := by
  go_enter Try.func9, Try.ntmps9
  go_wp2_with fail
  refine (fits_yes (m : Int) (by omega) (by omega) _).mono ?_; rintro e w' ⟨rfl, rfl⟩
  go_wp2_with fail
  refine (cut_any A n c h.cap h.top _).mono ?_; rintro e w' ⟨rfl, rfl⟩
  go_wp2_with fail
  go_loopw [7, 18] (fun v i wr => ∃ (k : Nat) (A' : Option Addr) (n' c' : Nat), k ≤ m ∧ i = .int .i64 (k : Int) ∧ v = .slice A' n' c' ∧ Own wr w.heap.size 5 1 A' n' c' (cells (l ++ le k x)) ∧ Below w.heap.size w wr) (fun _ i _ => m - (intOf i).toNat)
  case atStart => exact ⟨0, A, n, n, by omega, rfl, rfl, by simpa [le] using Own.full (h.recap (Nat.le_refl _) h.lim), Below.refl _ _⟩
  case round =>
    obtain ⟨k, A', n', c', hk, rfl, rfl, ho, hb⟩ := hrel
    by_cases hlt : k < m
    · have hb8 := byte_at x k
      have hlen := ho.sl.len
      rw [cells_length, List.length_append, le_length] at hlen
      have hl := h.len
      rw [cells_length] at hl
      have Hb := Lib.hid hb8; clear hb8
      have Hl := Lib.hid hlen; clear hlen
      have Hl2 := Lib.hid hl; clear hl
      go_wp2_with (at_builtin; refine wpList_append_b (B := w.heap.size) rfl (.tmp 21) (.tmp 27) rfl rfl (ho.alloc _) ?c1 (some ⟨wr.heap.size, 0, none⟩) 1 1 [UInt8.ofNat (x / 256 ^ k)] rfl (Sl.one _ _ _ _ Hb.out) ?c3 ?c4)
      case c1 => have := hb.size; simp; omega
      case c3 => have := Hl.out; have := Hl2.out; omega
      intro A2 c2 w2 ho2 hb2
      go_wp2_with fail
      go_roundw
      case rel => exact ⟨k + 1, A2, n' + 1, c2, by omega, by go_num, rfl, by simpa [le, cells_append, List.append_assoc] using ho2, (hb.alloc hb.size _).trans hb2⟩
      case measure => simp [intOf]; omega
    · go_wp2_with fail
      refine (cut_any A' n' c' ho.sl.cap ho.sl.top _).mono ?_; rintro e w' ⟨rfl, rfl⟩
      go_wp2_with fail
      go_ret
      obtain rfl : k = m := by omega
      exact ⟨A', n', n', rfl, ho.sl.recap (Nat.le_refl _) ho.sl.lim, hb⟩
end Go.Proofs.Ytddcpjblahonhaa
