/-
  The document's Put (layer 1) told in full: what it answers may be appended to. Condition: slices shorter than 2^47 less 8.
-/
import Derived.Test.YtpijfghklgmefaaDoorKd
namespace Go.Proofs.YtpijfghklgmefaaDoor
open Go.RowKit Go.Proofs
set_option linter.unusedVariables false

/-- What a call answers that makes bytes of its own, which may be appended to. -/
def RetOwn11 (B : Nat) (w : World) (l : List UInt8) (e : Ending) (w' : World) : Prop := ∃ A n c, e = .returned (.slice A n c) ∧ Own w' B 5 1 A n c (cells l) ∧ Below B w w'
set_option maxHeartbeats 400000 in
theorem joined_own (A1 A2 : Option Addr) (n1 c1 n2 c2 : Nat) (l k : List UInt8) (w : World) (h1 : Sl w 1 A1 n1 c1 (cells l)) (h2 : Sl w 1 A2 n2 c2 (cells k)) (h47 : n1 + n2 ≤ 140737488355328) :
    Calls Tryd.prog 73 #[.slice A1 n1 c1, .slice A2 n2 c2] w (RetOwn11 w.heap.size w (l ++ k)) := by
  go_enter Tryd.func73, Tryd.ntmps73
  go_wp2_with (at_builtin; refine wpList_append_b (B := w.heap.size) rfl (.tmp 5) (.tmp 6) rfl rfl (Own.full (Sl.empty _ _ _ 0 (by decide))) ?c1 A1 n1 c1 l rfl ?c2 ?c3 ?c4)
  case c1 => simp
  case c2 => exact h1.alloc _
  case c3 => omega
  intro A' c' w1 ho hb
  have hb0 : Below w.heap.size w w1 := ((Below.refl _ _).alloc (Nat.le_refl _) _).trans hb
  clear hb
  have hz := hb0.size
  go_wp2_with (at_builtin; refine wpList_append_b (B := w.heap.size) rfl (.tmp 7) (.tmp 8) rfl rfl ho hz A2 n2 c2 k rfl ?d2 ?d3 ?d4)
  case d2 => exact h2.below hb0 (Nat.le_refl _)
  case d3 => omega
  intro A2' c2' w2 ho2 hb2
  go_wp2
  go_ret
  exact ⟨A2', _, c2', rfl, by simpa [cells_append] using ho2, hb0.trans hb2⟩

set_option maxHeartbeats 400000 in
theorem rput_own (A : Option Addr) (n c : Nat) (l : List UInt8) (m : Int) (x : Nat) (w : World) (h : Sl w 1 A n c (cells l)) (h47 : n ≤ 140737488355320) (hx : x < 2 ^ 64) :
    Calls Tryd.prog 63 #[.slice A n c, .int .i64 m, .int .u64 (x : Int)] w (RetOwn11 w.heap.size w (l ++ le (if m ≤ 8 then m.toNat else 0) x)) := by
  have Hl := Lib.hid h.len
  by_cases hm : m ≤ 8
  · rw [if_pos hm]
    go_enter Tryd.func63, Tryd.ntmps63
    go_wp2_with fail
    go_loopw [2, 7, 8] (fun u v i wr => ∃ (k y : Nat) (A' : Option Addr) (n' c' : Nat), y = x / 256 ^ k ∧ (k : Int) ≤ max m 0 ∧ i = .int .i64 (k : Int) ∧ u = .int .u64 (y : Int) ∧ v = .slice A' n' c' ∧ Own wr w.heap.size 5 1 A' n' c' (cells (le k x)) ∧ Below w.heap.size w wr) (fun _ _ i _ => m.toNat - (intOf i).toNat)
    case atStart => exact ⟨0, x, none, 0, 0, by simp, by omega, rfl, rfl, rfl, Own.full (Sl.nil _ _ _ (by decide)), Below.refl _ _⟩
    case round =>
      obtain ⟨k, y, A', n', c', hy, hk, rfl, rfl, rfl, ho, hb⟩ := hrel
      have hyb : y < 2 ^ 64 := by rw [hy]; exact Nat.lt_of_le_of_lt (Nat.div_le_self _ _) hx
      have Hy := Lib.hid hy; clear hy
      by_cases hlt : (k : Int) < m
      · have hb8 := byte_div x k
        rw [← Hy.out] at hb8
        have hlen := ho.sl.len
        rw [cells_length, le_length] at hlen
        have Hb := Lib.hid hb8; clear hb8
        have Hn := Lib.hid hlen; clear hlen
        go_wp2_with (at_builtin; refine wpList_append_b (B := w.heap.size) rfl (.tmp 18) (.tmp 22) rfl rfl (ho.alloc _) ?c1 (some ⟨wr.heap.size, 0, none⟩) 1 1 [UInt8.ofNat y] rfl (Sl.one _ _ _ _ Hb.out) ?c3 ?c4)
        case c1 => have := hb.size; simp; omega
        case c3 => have := Hn.out; omega
        intro A2 c2 w2 ho2 hb2
        go_wp2_with fail
        go_roundw
        case rel => exact ⟨k + 1, y / 256, A2, n' + 1, c2, by rw [Hy.out, Nat.pow_succ, ← Nat.div_div_eq_div_mul], by omega, by go_num, by go_num, rfl, by simpa [le, cells_append, List.append_assoc, Hy.out] using ho2, (hb.alloc hb.size _).trans hb2⟩
        case measure => simp [intOf]; omega
      · have hk0 : m.toNat = k := by omega
        have hlen := ho.sl.len
        rw [cells_length, le_length] at hlen
        have Hk := Lib.hid hk0; clear hk0
        have Hn := Lib.hid hlen; clear hlen
        go_wp2_with fail
        refine (joined_own A A' n c n' c' l (le k x) _ (h.below hb (Nat.le_refl _)) ho.sl (by have := Hn.out; omega)).mono ?_
        rintro e w3 ⟨A3, n3, c3, rfl, h3, hb3⟩
        go_wp2_with fail
        go_ret
        rw [Hk.out]
        exact ⟨A3, n3, c3, rfl, h3.lower hb.size, hb.trans (hb3.mono hb.size)⟩
  · rw [if_neg hm]
    go_enter Tryd.func63, Tryd.ntmps63
    go_wp2_with fail
    go_loopw [2, 7, 8] (fun u v i wr => i = .int .i64 0 ∧ v = .slice none 0 0 ∧ Below w.heap.size w wr) (fun _ _ i _ => 0)
    case atStart => exact ⟨rfl, rfl, Below.refl _ _⟩
    case round =>
      obtain ⟨rfl, rfl, hb⟩ := hrel
      go_wp2_with fail
      refine (joined_own A none n c 0 0 l [] _ (h.below hb (Nat.le_refl _)) (Sl.nil _ _ _ (by decide)) (by omega)).mono ?_
      rintro e w3 ⟨A3, n3, c3, rfl, h3, hb3⟩
      go_wp2_with fail
      go_ret
      exact ⟨A3, n3, c3, rfl, h3.lower hb.size, hb.trans (hb3.mono hb.size)⟩

set_option maxHeartbeats 800000
set_option maxRecDepth 20000
theorem rput_at (A : Option Addr) (n c : Nat) (l : List UInt8) (m : Nat) (x : Nat) (w : World) (h : Sl w 1 A n c (cells l)) (h47 : n ≤ 140737488355320) (hm : m ≤ 8) (hx : x < 2 ^ 64) (k z : Int) (hk : k = (m : Int)) (hz : z = (x : Int)) :
    Calls Tryd.prog 63 #[.slice A n c, .int .i64 k, .int .u64 z] w (RetOwn11 w.heap.size w (l ++ le m x)) := by
  subst hk hz
  have := rput_own A n c l (m : Int) x w h h47 hx
  rwa [if_pos (by omega), Int.toNat_natCast] at this
end Go.Proofs.YtpijfghklgmefaaDoor
