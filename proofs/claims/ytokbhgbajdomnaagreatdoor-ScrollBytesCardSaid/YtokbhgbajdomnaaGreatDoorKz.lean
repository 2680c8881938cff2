/-
  What goes with Ka, for the laws over it. No condition but what each theorem says.
-/
import Derived.Test.YtokbhgbajdomnaaGreatDoorKa
namespace Go.Proofs.YtokbhgbajdomnaaGreatDoor

theorem byte_div (x k : Nat) : (((x / 256 ^ k : Nat) : Int) % 256) = ((UInt8.ofNat (x / 256 ^ k)).toNat : Int) := by
  rw [UInt8.toNat_ofNat']
  omega

theorem drop_one_less {α : Type} (l : List α) (a k : Nat) (u : α) (h : l[a]? = some u) : (l.drop a).take (k + 1) = u :: (l.drop (a + 1)).take k := by
  have hlt : a < l.length := by
    rcases Nat.lt_or_ge a l.length with h' | h'
    · exact h'
    · rw [List.getElem?_eq_none h'] at h; cases h
  rw [List.drop_eq_getElem_cons hlt, List.take_succ_cons]
  rw [List.getElem?_eq_getElem hlt] at h
  injection h with h
  rw [h]

end Go.Proofs.YtokbhgbajdomnaaGreatDoor

namespace Go.Proofs.YtokbhgbajdomnaaGreatDoor
open Go.RowKit
set_option linter.unusedVariables false

set_option maxHeartbeats 400000 in
theorem inside_no (A : Option Addr) (n c : Nat) (at_ : Int) (hn : n ≤ maxLen) (h : ¬ (0 ≤ at_ ∧ at_ ≤ n)) (w : World) :
    Calls Tryz.prog 123 #[.slice A n c, .int .i64 at_] w fun e w' => e = .returned (.bool false) ∧ w = w' := by
  unfold maxLen at hn
  by_cases h0 : 0 ≤ at_
  · have h1 : ¬ (at_ ≤ n) := fun h1 => h ⟨h0, h1⟩
    clear h
    go_enter Tryz.func123, Tryz.ntmps123
    go_wp2
    go_ret
    exact ⟨rfl, rfl⟩
  · clear h
    go_enter Tryz.func123, Tryz.ntmps123
    go_wp2
    go_ret
    exact ⟨rfl, rfl⟩

end Go.Proofs.YtokbhgbajdomnaaGreatDoor

namespace Go.Proofs.YtokbhgbajdomnaaGreatDoor
open Go.RowKit
set_option linter.unusedVariables false

end Go.Proofs.YtokbhgbajdomnaaGreatDoor

namespace Go.Proofs.YtokbhgbajdomnaaGreatDoor
open Go.RowKit
set_option linter.unusedVariables false

set_option maxHeartbeats 400000 in
theorem get_width (A : Option Addr) (n c : Nat) (at_ m : Int) (w : World) (hm : ¬ (1 ≤ m ∧ m ≤ 8)) :
    Calls Tryz.prog 80 #[.slice A n c, .int .i64 at_, .int .i64 m] w fun e w' => e = .returned (.tuple #[.int .u64 0, .int .i64 2]) ∧ w = w' := by
  go_enter Tryz.func80, Tryz.ntmps80
  go_wp2_with fail
  refine (nfits_no m hm _).mono ?_; rintro e w' ⟨rfl, rfl⟩
  go_wp2_with fail
  go_ret2
  exact ⟨rfl, rfl⟩

set_option maxHeartbeats 400000 in
theorem get_place (A : Option Addr) (n c : Nat) (at_ m : Int) (w : World) (hn : n ≤ maxLen) (h1 : 1 ≤ m) (h8 : m ≤ 8) (ha : ¬ (0 ≤ at_ ∧ at_ ≤ n)) :
    Calls Tryz.prog 80 #[.slice A n c, .int .i64 at_, .int .i64 m] w fun e w' => e = .returned (.tuple #[.int .u64 0, .int .i64 2]) ∧ w = w' := by
  have Ha := Lib.hid ha; clear ha
  go_enter Tryz.func80, Tryz.ntmps80
  go_wp2_with fail
  refine (nfits_yes m h1 h8 _).mono ?_; rintro e w' ⟨rfl, rfl⟩
  go_wp2_with fail
  refine (inside_no A n c at_ hn Ha.out _).mono ?_; rintro e w' ⟨rfl, rfl⟩
  go_wp2_with fail
  go_ret2
  exact ⟨rfl, rfl⟩

set_option maxHeartbeats 400000 in
theorem get_short (A : Option Addr) (n c : Nat) (a : Nat) (m : Int) (w : World) (hn : n ≤ maxLen) (h1 : 1 ≤ m) (h8 : m ≤ 8) (ha : a ≤ n) (hs : (n : Int) - a < m) :
    Calls Tryz.prog 80 #[.slice A n c, .int .i64 (a : Int), .int .i64 m] w fun e w' => e = .returned (.tuple #[.int .u64 0, .int .i64 5]) ∧ w = w' := by
  have hn' := hn
  unfold maxLen at hn'
  go_enter Tryz.func80, Tryz.ntmps80
  go_wp2_with fail
  refine (nfits_yes m h1 h8 _).mono ?_; rintro e w' ⟨rfl, rfl⟩
  go_wp2_with fail
  refine (inside_yes A n c a hn (by omega) (by omega) _).mono ?_; rintro e w' ⟨rfl, rfl⟩
  go_wp2_with fail
  go_ret2
  exact ⟨rfl, rfl⟩

set_option maxHeartbeats 400000 in
theorem joined_any (A1 A2 : Option Addr) (n1 c1 n2 c2 : Nat) (l k : List UInt8) (w : World) (h1 : Sl w 1 A1 n1 c1 (cells l)) (h2 : Sl w 1 A2 n2 c2 (cells k)) (h47 : n1 + n2 ≤ 140737488355328) :
    Calls Tryz.prog 124 #[.slice A1 n1 c1, .slice A2 n2 c2] w (RetBytes w.heap.size w (l ++ k)) := by
  go_enter Tryz.func124, Tryz.ntmps124
  go_wp2_with (at_builtin; refine wpList_append_b (B := w.heap.size) rfl (.tmp 5) (.tmp 6) rfl rfl (Own.full (Sl.empty _ _ _ 0 (by decide))) ?c1 A1 n1 c1 l rfl ?c2 ?c3 ?c4)
  case c1 => simp
  case c2 => exact h1.alloc _
  case c3 => omega
  intro A' c' w1 ho hb
  have hb0 : Below w.heap.size w w1 := ((Below.refl _ _).alloc (Nat.le_refl _) _).trans hb
  clear hb
  have hz := hb0.size
  go_wp2_with (at_builtin; refine wpList_append_b (B := w.heap.size) rfl (.tmp 7) (.tmp 8) rfl rfl ho hz A2 n2 c2 k rfl ?d2 ?d3 ?d4)
  case d2 => exact h2.below hb0 (Nat.le_refl _)
  case d3 => omega
  intro A2' c2' w2 ho2 hb2
  go_wp2
  go_ret
  exact ⟨A2', _, c2', rfl, by simpa [cells_append] using ho2.sl, hb0.trans hb2⟩

set_option maxHeartbeats 400000 in
theorem rput_any (A : Option Addr) (n c : Nat) (l : List UInt8) (m : Int) (x : Nat) (w : World) (h : Sl w 1 A n c (cells l)) (h47 : n ≤ 140737488355320) (hx : x < 2 ^ 64) :
    Calls Tryz.prog 81 #[.slice A n c, .int .i64 m, .int .u64 (x : Int)] w (RetBytes w.heap.size w (l ++ le (if m ≤ 8 then m.toNat else 0) x)) := by
  have Hl := Lib.hid h.len
  by_cases hm : m ≤ 8
  · rw [if_pos hm]
    go_enter Tryz.func81, Tryz.ntmps81
    go_wp2_with fail
    go_loopw [2, 7, 8] (fun u v i wr => ∃ (k y : Nat) (A' : Option Addr) (n' c' : Nat), y = x / 256 ^ k ∧ (k : Int) ≤ max m 0 ∧ i = .int .i64 (k : Int) ∧ u = .int .u64 (y : Int) ∧ v = .slice A' n' c' ∧ Own wr w.heap.size 5 1 A' n' c' (cells (le k x)) ∧ Below w.heap.size w wr) (fun _ _ i _ => m.toNat - (intOf i).toNat)
    case atStart => exact ⟨0, x, none, 0, 0, by simp, by omega, rfl, rfl, rfl, Own.full (Sl.nil _ _ _ (by decide)), Below.refl _ _⟩
    case round =>
      obtain ⟨k, y, A', n', c', hy, hk, rfl, rfl, rfl, ho, hb⟩ := hrel
      have hyb : y < 2 ^ 64 := by rw [hy]; exact Nat.lt_of_le_of_lt (Nat.div_le_self _ _) hx
      have Hy := Lib.hid hy; clear hy
      by_cases hlt : (k : Int) < m
      · have hb8 := byte_div x k
        rw [← Hy.out] at hb8
        have hlen := ho.sl.len
        rw [cells_length, le_length] at hlen
        have Hb := Lib.hid hb8; clear hb8
        have Hn := Lib.hid hlen; clear hlen
        go_wp2_with (at_builtin; refine wpList_append_b (B := w.heap.size) rfl (.tmp 18) (.tmp 22) rfl rfl (ho.alloc _) ?c1 (some ⟨wr.heap.size, 0, none⟩) 1 1 [UInt8.ofNat y] rfl (Sl.one _ _ _ _ Hb.out) ?c3 ?c4)
        case c1 => have := hb.size; simp; omega
        case c3 => have := Hn.out; omega
        intro A2 c2 w2 ho2 hb2
        go_wp2_with fail
        go_roundw
        case rel => exact ⟨k + 1, y / 256, A2, n' + 1, c2, by rw [Hy.out, Nat.pow_succ, ← Nat.div_div_eq_div_mul], by omega, by go_num, by go_num, rfl, by simpa [le, cells_append, List.append_assoc, Hy.out] using ho2, (hb.alloc hb.size _).trans hb2⟩
        case measure => simp [intOf]; omega
      · have hk0 : m.toNat = k := by omega
        have hlen := ho.sl.len
        rw [cells_length, le_length] at hlen
        have Hk := Lib.hid hk0; clear hk0
        have Hn := Lib.hid hlen; clear hlen
        go_wp2_with fail
        refine (joined_any A A' n c n' c' l (le k x) _ (h.below hb (Nat.le_refl _)) ho.sl (by have := Hn.out; omega)).mono ?_
        rintro e w3 ⟨A3, n3, c3, rfl, h3, hb3⟩
        go_wp2_with fail
        go_ret
        rw [Hk.out]
        exact ⟨A3, n3, c3, rfl, h3, hb.trans (hb3.mono hb.size)⟩
  · rw [if_neg hm]
    go_enter Tryz.func81, Tryz.ntmps81
    go_wp2_with fail
    go_loopw [2, 7, 8] (fun u v i wr => i = .int .i64 0 ∧ v = .slice none 0 0 ∧ Below w.heap.size w wr) (fun _ _ i _ => 0)
    case atStart => exact ⟨rfl, rfl, Below.refl _ _⟩
    case round =>
      obtain ⟨rfl, rfl, hb⟩ := hrel
      go_wp2_with fail
      refine (joined_any A none n c 0 0 l [] _ (h.below hb (Nat.le_refl _)) (Sl.nil _ _ _ (by decide)) (by omega)).mono ?_
      rintro e w3 ⟨A3, n3, c3, rfl, h3, hb3⟩
      go_wp2_with fail
      go_ret
      exact ⟨A3, n3, c3, rfl, h3, hb.trans (hb3.mono hb.size)⟩
end Go.Proofs.YtokbhgbajdomnaaGreatDoor

namespace Go.Proofs.YtokbhgbajdomnaaGreatDoor
open Go.RowKit
set_option linter.unusedVariables false

set_option maxHeartbeats 400000 in
theorem rget_arg (A : Option Addr) (n c : Nat) (at_ m : Int) (w : World) (hn : n ≤ maxLen) (hm : ¬ (1 ≤ m ∧ m ≤ 8) ∨ ¬ (0 ≤ at_ ∧ at_ ≤ n)) :
    Calls Tryz.prog 73 #[.slice A n c, .int .i64 at_, .int .i64 m] w fun e w' => e = .returned (.tuple #[.int .u64 0, .int .i64 2]) ∧ w = w' := by
  unfold maxLen at hn
  by_cases h1 : m < 1
  · clear hm
    go_enter Tryz.func73, Tryz.ntmps73
    go_wp2_with fail
    go_ret2
    exact ⟨rfl, rfl⟩
  by_cases h2 : m > 8
  · clear hm
    go_enter Tryz.func73, Tryz.ntmps73
    go_wp2_with fail
    go_ret2
    exact ⟨rfl, rfl⟩
  by_cases h3 : at_ < 0
  · clear hm
    go_enter Tryz.func73, Tryz.ntmps73
    go_wp2_with fail
    go_ret2
    exact ⟨rfl, rfl⟩
  have h4 : at_ > n := by omega
  clear hm
  go_enter Tryz.func73, Tryz.ntmps73
  go_wp2_with fail
  go_ret2
  exact ⟨rfl, rfl⟩

set_option maxHeartbeats 400000 in
theorem rget_short (A : Option Addr) (n c : Nat) (a : Nat) (m : Int) (w : World) (hn : n ≤ maxLen) (h1 : 1 ≤ m) (h8 : m ≤ 8) (ha : a ≤ n) (hs : (n : Int) - a < m) :
    Calls Tryz.prog 73 #[.slice A n c, .int .i64 (a : Int), .int .i64 m] w fun e w' => e = .returned (.tuple #[.int .u64 0, .int .i64 5]) ∧ w = w' := by
  unfold maxLen at hn
  have h1' : ¬ m < 1 := by omega
  have h8' : ¬ m > 8 := by omega
  have ha' : ¬ (a : Int) > n := by omega
  go_enter Tryz.func73, Tryz.ntmps73
  go_wp2_with fail
  go_ret2
  exact ⟨rfl, rfl⟩

set_option maxHeartbeats 400000 in
theorem rget_ok (A : Option Addr) (n c : Nat) (l : List UInt8) (a m : Nat) (w : World) (h : Sl w 1 A n c (cells l)) (h1 : 1 ≤ m) (h8 : m ≤ 8) (ha : a + m ≤ n) :
    Calls Tryz.prog 73 #[.slice A n c, .int .i64 (a : Int), .int .i64 (m : Int)] w fun e w' => e = .returned (.tuple #[.int .u64 (leVal ((l.drop a).take m) : Nat), .int .i64 0]) ∧ w = w' := by
  have hn := h.lim
  unfold maxLen at hn
  have h1' : ¬ (m : Int) < 1 := by omega
  have h8' : ¬ (m : Int) > 8 := by omega
  have ha' : ¬ (a : Int) > n := by omega
  have hs : ¬ ((n : Int) - a < m) := by omega
  obtain ⟨b, o, rfl, hc⟩ := h.at_ (k := 0) (by omega)
  go_enter Tryz.func73, Tryz.ntmps73
  go_wp2_with fail
  go_loop [8, 9] (fun v i => ∃ (j y : Nat), j ≤ m ∧ i = .int .i64 ((j : Int) - 1) ∧ v = .int .u64 (y : Int) ∧ y = leVal ((l.drop (a + j)).take (m - j))) (fun _ i => (intOf i + 1).toNat)
  case atStart => exact ⟨m, 0, by omega, rfl, rfl, by simp [leVal]⟩
  case round =>
    obtain ⟨j, y, hj, rfl, rfl, hy⟩ := hrel
    have Hy := Lib.hid hy; clear hy
    by_cases hlt : 0 < j
    · obtain ⟨j, rfl⟩ : ∃ i, j = i + 1 := ⟨j - 1, by omega⟩
      obtain ⟨u, hu⟩ : ∃ u, l[a + j]? = some u := ⟨_, List.getElem?_eq_getElem (by have := h.len; rw [cells_length] at this; omega)⟩
      have hcell : w.cell? ⟨b, o + (a + j), none⟩ = some (.int .u8 (u.toNat : Int)) := hc _ _ (by simp [cells, hu, bv])
      have Hu := Lib.hid hu; clear hu
      have hyb : 256 * y + 255 < 2 ^ 64 := by
        have := leVal_lt ((l.drop (a + (j + 1))).take (m - (j + 1)))
        rw [← Hy.out] at this
        have h2 : 256 ^ ((l.drop (a + (j + 1))).take (m - (j + 1))).length ≤ 256 ^ 7 := Nat.pow_le_pow_right (by omega) (by rw [List.length_take]; omega)
        omega
      have hub := u.toNat_lt
      go_wp2_with fail
      go_round
      case rel => exact ⟨j, 256 * y + u.toNat, by omega, rfl, by go_num, by rw [show m - j = (m - (j + 1)) + 1 from by omega, drop_one_less l (a + j) _ u Hu.out, leVal, Hy.out, Nat.add_assoc, Nat.add_comm]⟩
      case measure => simp [intOf] <;> omega
    · go_wp2_with fail
      go_ret2
      obtain rfl : j = 0 := by omega
      exact ⟨by rw [Hy.out]; rfl, rfl⟩
end Go.Proofs.YtokbhgbajdomnaaGreatDoor
