/-
  Contracts of package num's Get and of the document's answers Get, Same, Put, joined.
-/
import Derived.Test.YtddcpjblahonhaaNumb
namespace Go.Proofs.Ytddcpjblahonhaa
open Go.RowKit
set_option linter.unusedVariables false

set_option maxHeartbeats 400000 in
theorem get_width (A : Option Addr) (n c : Nat) (at_ m : Int) (w : World) (hm : ¬ (1 ≤ m ∧ m ≤ 8)) :
    Calls Try.prog 10 #[.slice A n c, .int .i64 at_, .int .i64 m] w fun e w' => e = .returned (.tuple #[.int .u64 0, .int .i64 2]) ∧ w = w' := by
  go_enter Try.func10, Try.ntmps10
  go_wp2_with fail
  refine (fits_no m hm _).mono ?_; rintro e w' ⟨rfl, rfl⟩
  go_wp2_with fail
  go_ret2
  exact ⟨rfl, rfl⟩

set_option maxHeartbeats 400000 in
theorem get_place (A : Option Addr) (n c : Nat) (at_ m : Int) (w : World) (hn : n ≤ maxLen) (h1 : 1 ≤ m) (h8 : m ≤ 8) (ha : ¬ (0 ≤ at_ ∧ at_ ≤ n)) :
    Calls Try.prog 10 #[.slice A n c, .int .i64 at_, .int .i64 m] w fun e w' => e = .returned (.tuple #[.int .u64 0, .int .i64 2]) ∧ w = w' := by
  have Ha := Lib.hid ha; clear ha
  go_enter Try.func10, Try.ntmps10
  go_wp2_with fail
  refine (fits_yes m h1 h8 _).mono ?_; rintro e w' ⟨rfl, rfl⟩
  go_wp2_with fail
  refine (inside_no A n c at_ hn Ha.out _).mono ?_; rintro e w' ⟨rfl, rfl⟩
  go_wp2_with fail
  go_ret2
  exact ⟨rfl, rfl⟩

set_option maxHeartbeats 400000 in
theorem get_short (A : Option Addr) (n c : Nat) (a : Nat) (m : Int) (w : World) (hn : n ≤ maxLen) (h1 : 1 ≤ m) (h8 : m ≤ 8) (ha : a ≤ n) (hs : (n : Int) - a < m) :
    Calls Try.prog 10 #[.slice A n c, .int .i64 (a : Int), .int .i64 m] w fun e w' => e = .returned (.tuple #[.int .u64 0, .int .i64 5]) ∧ w = w' := by
  have hn' := hn
  unfold maxLen at hn'
  go_enter Try.func10, Try.ntmps10
  go_wp2_with fail
  refine (fits_yes m h1 h8 _).mono ?_; rintro e w' ⟨rfl, rfl⟩
  go_wp2_with fail
  refine (inside_yes A n c a hn (by omega) (by omega) _).mono ?_; rintro e w' ⟨rfl, rfl⟩
  go_wp2_with fail
  go_ret2
  exact ⟨rfl, rfl⟩

set_option maxHeartbeats 400000 in
theorem get_ok (A : Option Addr) (n c : Nat) (l : List UInt8) (a m : Nat) (w : World) (h : Sl w 1 A n c (cells l)) (h1 : 1 ≤ m) (h8 : m ≤ 8) (ha : a + m ≤ n) :
    Calls Try.prog 10 #[.slice A n c, .int .i64 (a : Int), .int .i64 (m : Int)] w fun e w' => e = .returned (.tuple #[.int .u64 (leVal ((l.drop a).take m) : Nat), .int .i64 0]) ∧ w = w' := by
  have hn := h.lim
  have hn' := hn
  unfold maxLen at hn'
  go_enter Try.func10, Try.ntmps10
  go_wp2_with fail
  refine (fits_yes (m : Int) (by omega) (by omega) _).mono ?_; rintro e w' ⟨rfl, rfl⟩
  go_wp2_with fail
  refine (inside_yes A n c (a : Int) hn (by omega) (by omega) _).mono ?_; rintro e w' ⟨rfl, rfl⟩
  have hs : ¬ ((n : Int) - a < m) := by omega
  go_wp2_with fail
  obtain ⟨b, o, rfl, hc⟩ := h.at_ (k := 0) (by omega)
  go_loop [8, 26] (fun v i => ∃ k : Nat, k ≤ m ∧ i = .int .i64 (k : Int) ∧ v = .int .u64 (leVal ((l.drop a).take k) : Nat)) (fun _ i => m - (intOf i).toNat)
  case atStart => exact ⟨0, by omega, rfl, rfl⟩
  case round =>
    obtain ⟨k, hk, rfl, rfl⟩ := hrel
    by_cases hlt : k < m
    · obtain ⟨u, hu⟩ : ∃ u, l[a + k]? = some u := ⟨_, List.getElem?_eq_getElem (by have := h.len; rw [cells_length] at this; omega)⟩
      have hcell : w.cell? ⟨b, o + (a + k), none⟩ = some (.int .u8 (u.toNat : Int)) := hc _ _ (by simp [cells, hu, bv])
      have Hu := Lib.hid hu; clear hu
      go_wp2_with fail
      go_round
      case rel => exact ⟨k + 1, by omega, by go_num, by rw [or_high _ u k (take_length_of l a k n (by have := h.len; rw [cells_length] at this; omega) (by omega)) (by omega), take_one_more l a k u Hu.out]⟩
      case measure => simp [intOf]; omega
    · go_wp2_with fail
      go_ret2
      obtain rfl : k = m := by omega
      exact ⟨rfl, rfl⟩

set_option maxHeartbeats 400000 in
theorem same_true (A1 A2 : Option Addr) (n1 c1 n2 c2 : Nat) (l : List UInt8) (w : World) (h1 : Sl w 1 A1 n1 c1 (cells l)) (h2 : Sl w 1 A2 n2 c2 (cells l)) :
    Calls Try.prog 12 #[.slice A1 n1 c1, .slice A2 n2 c2] w fun e w' => e = .returned (.bool true) ∧ w = w' := by
  have k1 := run_string_of (P := Try.prog) (w := w) 22 5 9 Try.underlying22 Try.underlying5 Try.underlying9 h1
  have k2 := run_string_of (P := Try.prog) (w := w) 22 5 9 Try.underlying22 Try.underlying5 Try.underlying9 h2
  go_enter Try.func12, Try.ntmps12
  go_wp2_with fail
  go_ret
  exact ⟨rfl, rfl⟩

set_option maxHeartbeats 400000 in
theorem joined_any (A1 A2 : Option Addr) (n1 c1 n2 c2 : Nat) (l k : List UInt8) (w : World) (h1 : Sl w 1 A1 n1 c1 (cells l)) (h2 : Sl w 1 A2 n2 c2 (cells k)) (h47 : n1 + n2 ≤ 140737488355328) :
    Calls Try.prog 30 #[.slice A1 n1 c1, .slice A2 n2 c2] w (RetBytes w.heap.size w (l ++ k)) := by
  go_enter Try.func30, Try.ntmps30
  go_wp2_with (at_builtin; refine wpList_append_b (B := w.heap.size) rfl (.tmp 5) (.tmp 6) rfl rfl (Own.full (Sl.empty _ _ _ 0 (by decide))) ?c1 A1 n1 c1 l rfl ?c2 ?c3 ?c4)
  case c1 => simp
  case c2 => exact h1.alloc _
  case c3 => omega
  intro A' c' w1 ho hb
  have hb0 : Below w.heap.size w w1 := ((Below.refl _ _).alloc (Nat.le_refl _) _).trans hb
  clear hb
  have hz := hb0.size
  go_wp2_with (at_builtin; refine wpList_append_b (B := w.heap.size) rfl (.tmp 7) (.tmp 8) rfl rfl ho hz A2 n2 c2 k rfl ?d2 ?d3 ?d4)
  case d2 => exact h2.below hb0 (Nat.le_refl _)
  case d3 => omega
  intro A2' c2' w2 ho2 hb2
  go_wp2
  go_ret
  exact ⟨A2', _, c2', rfl, by simpa [cells_append] using ho2.sl, hb0.trans hb2⟩

set_option maxHeartbeats 400000 in
theorem rput_any (A : Option Addr) (n c : Nat) (l : List UInt8) (m : Int) (x : Nat) (w : World) (h : Sl w 1 A n c (cells l)) (h47 : n ≤ 140737488355320) (hx : x < 2 ^ 64) :
    Calls Try.prog 13 #[.slice A n c, .int .i64 m, .int .u64 (x : Int)] w (RetBytes w.heap.size w (l ++ le (if m ≤ 8 then m.toNat else 0) x)) := by
  have Hl := Lib.hid h.len
  by_cases hm : m ≤ 8
  · rw [if_pos hm]
    go_enter Try.func13, Try.ntmps13
    go_wp2_with fail
    go_loopw [2, 7, 8] (fun u v i wr => ∃ (k y : Nat) (A' : Option Addr) (n' c' : Nat), y = x / 256 ^ k ∧ (k : Int) ≤ max m 0 ∧ i = .int .i64 (k : Int) ∧ u = .int .u64 (y : Int) ∧ v = .slice A' n' c' ∧ Own wr w.heap.size 5 1 A' n' c' (cells (le k x)) ∧ Below w.heap.size w wr) (fun _ _ i _ => m.toNat - (intOf i).toNat)
    case atStart => exact ⟨0, x, none, 0, 0, by simp, by omega, rfl, rfl, rfl, Own.full (Sl.nil _ _ _ (by decide)), Below.refl _ _⟩
    case round =>
      obtain ⟨k, y, A', n', c', hy, hk, rfl, rfl, rfl, ho, hb⟩ := hrel
      have hyb : y < 2 ^ 64 := by rw [hy]; exact Nat.lt_of_le_of_lt (Nat.div_le_self _ _) hx
      have Hy := Lib.hid hy; clear hy
      by_cases hlt : (k : Int) < m
      · have hb8 := byte_div x k
        rw [← Hy.out] at hb8
        have hlen := ho.sl.len
        rw [cells_length, le_length] at hlen
        have Hb := Lib.hid hb8; clear hb8
        have Hn := Lib.hid hlen; clear hlen
        go_wp2_with (at_builtin; refine wpList_append_b (B := w.heap.size) rfl (.tmp 18) (.tmp 22) rfl rfl (ho.alloc _) ?c1 (some ⟨wr.heap.size, 0, none⟩) 1 1 [UInt8.ofNat y] rfl (Sl.one _ _ _ _ Hb.out) ?c3 ?c4)
        case c1 => have := hb.size; simp; omega
        case c3 => have := Hn.out; omega
        intro A2 c2 w2 ho2 hb2
        go_wp2_with fail
        go_roundw
        case rel => exact ⟨k + 1, y / 256, A2, n' + 1, c2, by rw [Hy.out, Nat.pow_succ, ← Nat.div_div_eq_div_mul], by omega, by go_num, by go_num, rfl, by simpa [le, cells_append, List.append_assoc, Hy.out] using ho2, (hb.alloc hb.size _).trans hb2⟩
        case measure => simp [intOf]; omega
      · have hk0 : m.toNat = k := by omega
        have hlen := ho.sl.len
        rw [cells_length, le_length] at hlen
        have Hk := Lib.hid hk0; clear hk0
        have Hn := Lib.hid hlen; clear hlen
        go_wp2_with fail
        refine (joined_any A A' n c n' c' l (le k x) _ (h.below hb (Nat.le_refl _)) ho.sl (by have := Hn.out; omega)).mono ?_
        rintro e w3 ⟨A3, n3, c3, rfl, h3, hb3⟩
        go_wp2_with fail
        go_ret
        rw [Hk.out]
        exact ⟨A3, n3, c3, rfl, h3, hb.trans (hb3.mono hb.size)⟩
  · rw [if_neg hm]
    go_enter Try.func13, Try.ntmps13
    go_wp2_with fail
    go_loopw [2, 7, 8] (fun u v i wr => i = .int .i64 0 ∧ v = .slice none 0 0 ∧ Below w.heap.size w wr) (fun _ _ i _ => 0)
    case atStart => exact ⟨rfl, rfl, Below.refl _ _⟩
    case round =>
      obtain ⟨rfl, rfl, hb⟩ := hrel
      go_wp2_with fail
      refine (joined_any A none n c 0 0 l [] _ (h.below hb (Nat.le_refl _)) (Sl.nil _ _ _ (by decide)) (by omega)).mono ?_
      rintro e w3 ⟨A3, n3, c3, rfl, h3, hb3⟩
      go_wp2_with fail
      go_ret
      exact ⟨A3, n3, c3, rfl, h3, hb.trans (hb3.mono hb.size)⟩
end Go.Proofs.Ytddcpjblahonhaa
