/-
  The document's piece and Cut (layer 17). Conditions: bounds.
-/
import Derived.Test.YtpijfghklgmefaaDoorFrr
import Derived.Test.YtpijfghklgmefaaDoorFry
namespace Go.Proofs.YtpijfghklgmefaaDoor
open Go.RowKit Go.Proofs
set_option linter.unusedVariables false
set_option maxRecDepth 20000
set_option maxHeartbeats 3200000

/-- A piece and its sum. -/
def RetPc (m : UInt8) (t : List UInt8) (s : W32) (w : World) (e : Ending) (w' : World) : Prop := ∃ A c, e = .returned (.tuple #[.slice A (t.length + 7) c, .int .u32 ((smF m t s).toNat : Int)]) ∧ Gro w' w.heap.size A (t.length + 7) c (pcF m t s) ∧ Below w.heap.size w w'
theorem rpiece17 (m : UInt8) (s : W32) (A : Option Addr) (n c : Nat) (t : List UInt8) (w : World) (h : Sl w 1 A n c (cells t)) (hn : n ≤ 1000000) :
    Calls Tryd.prog 42 #[.int .u8 (m.toNat : Int), .slice A n c, .int .u32 (s.toNat : Int)] w (RetPc m t s w) := by
  have hl := h.len
  rw [cells_length, Nat.mul_one] at hl
  have hs0 : Sl (w.alloc (.cells #[.int .u8 (m.toNat : Int)] 5)) 1 (some ⟨w.heap.size, 0, none⟩) 1 1 (cells [m]) := Sl.made w #[.int .u8 (m.toNat : Int)] 5 1 1 rfl (by decide)
  have hb1 : Below w.heap.size w (w.alloc (.cells #[.int .u8 (m.toNat : Int)] 5)) := (Below.refl _ _).alloc (Nat.le_refl _) _
  obtain ⟨w1, hw1⟩ : ∃ x, x = w.alloc (.cells #[.int .u8 (m.toNat : Int)] 5) := ⟨_, rfl⟩
  have HW1 := Lib.hid hw1
  rw [← hw1] at hs0 hb1
  have hp1 := rput_gat (some ⟨w.heap.size, 0, none⟩) 1 1 [m] 2 n w1 hs0 (by decide) (by decide) (by omega) 2 (n : Int) rfl rfl
  have S1 := Lib.hid (h.below hb1 (Nat.le_refl _))
  have B1 := Lib.hid hb1
  have HL := Lib.hid hl
  have hwn : IntKind.u64.wrap (n : Int) = (n : Int) := by rw [IntKind.wrap_u64]; omega
  clear hb1 hw1 hs0 h hl
  go_enter Tryd.func42, Tryd.ntmps42
  go_wp2_with (rw [← HW1.out])
  refine hp1.mono ?_; clear hp1; rintro e w2 ⟨A2, n2, c2, rfl, ho2, hb2⟩
  have hH : Sl w2 1 A2 n2 c2 (cells (hdF m t)) := by
    have h := ho2.sl
    rw [← HL.out] at h
    exact h
  have hn2 := hH.len
  rw [cells_length, Nat.mul_one, hdF_len] at hn2
  subst hn2
  have B2 := Lib.hid (B1.out.trans (hb2.mono B1.out.size))
  have S2 := Lib.hid (S1.out.below hb2 (Nat.le_refl _))
  have H2 := Lib.hid hH
  clear ho2 hb2 hH
  go_wp2_with fail
  refine (rmore_any A2 3 c2 (hdF m t) s w2 H2.out).mono ?_; rintro e w3 ⟨rfl, hw3⟩
  obtain rfl : w2 = w3 := hw3
  go_wp2_with fail
  refine (rmore_any A n c t _ w2 S2.out).mono ?_; rintro e w3 ⟨rfl, hw3⟩
  obtain rfl : w2 = w3 := hw3
  obtain ⟨q, hq⟩ : ∃ q, q = more (more s (hdF m t)) t := ⟨_, rfl⟩
  rw [← hq]
  have HQ := Lib.hid (show q = smF m t s from hq)
  have hwq : IntKind.u64.wrap ((q.toNat : Nat) : Int) = ((q.toNat : Nat) : Int) := by
    have := q.isLt
    rw [IntKind.wrap_u64]
    omega
  have hp2 := rput_gat A2 3 c2 (hdF m t) 4 q.toNat w2 H2.out (by decide) (by decide) (by have := q.isLt; omega) 4 (q.toNat : Int) rfl rfl
  clear hq
  go_wp2_with fail
  refine hp2.mono ?_; clear hp2; rintro e w4 ⟨A4, n4, c4, rfl, ho4, hb4⟩
  have hn4 := ho4.sl.len
  rw [cells_length, Nat.mul_one, List.length_append, hdF_len, le_length] at hn4
  subst hn4
  have B4 := Lib.hid (B2.out.trans (hb4.mono B2.out.size))
  have S4 := Lib.hid (S2.out.below hb4 (Nat.le_refl _))
  have O4 := Lib.hid (show Gro w4 w2.heap.size A4 7 c4 (hdF m t ++ le 4 q.toNat) from ho4)
  have Z4 := Lib.hid hb4.size
  clear hb4 ho4
  go_wp2_with (at_builtin; refine wpList_append_gro (B := w2.heap.size) rfl (.tmp 24) (.tmp 25) rfl rfl O4.out Z4.out A n c t rfl S4.out ?c1 ?c2)
  case c1 => omega
  intro A5 c5 w5 ho5 hb5
  have B5 := Lib.hid (B4.out.trans (hb5.mono (Nat.le_trans B2.out.size (Nat.le_refl _))))
  go_wp2_with fail
  go_ret2
  have hgo : Gro w5 w2.heap.size A5 (7 + n) c5 (hdF m t ++ le 4 q.toNat ++ t) := ho5
  have e : hdF m t ++ le 4 q.toNat ++ t = pcF m t s := by rw [pcF, ← HQ.out]
  rw [e, Nat.add_comm 7 n] at hgo
  have hq := HQ.out
  have hl := HL.out
  refine ⟨A5, c5, ?_, by rw [hl]; exact hgo.lower B2.out.size, B5.out⟩
  show Ending.returned (.tuple #[.slice A5 (7 + n) c5, .int .u32 (q.toNat : Int)]) = _
  rw [hl, ← hq, Nat.add_comm n 7]
end Go.Proofs.YtpijfghklgmefaaDoor
