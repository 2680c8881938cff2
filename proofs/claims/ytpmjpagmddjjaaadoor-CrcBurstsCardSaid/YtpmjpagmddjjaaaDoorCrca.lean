/-
  Contracts of package crc's noughtByte and through. Condition: the table reads as the row lists it ('Nt').
-/
import Derived.Test.YtpmjpagmddjjaaaDoorProg
import Derived.Test.YtpmjpagmddjjaaaDoorKit
import Derived.Test.YtpmjpagmddjjaaaDoorCrcn
import Derived.Deep.QuietTactic
import Derived.BigQuiet
import Derived.Lib.LaidTab
namespace Go.Proofs.YtpmjpagmddjjaaaDoor
open Go.RowKit
set_option linter.unusedVariables false

/-- A word as a value. -/
def uv (c : W32) : Value := .int .u32 (c.toNat : Int)

theorem gNought : Tryd.prog.globalNamed "ciborium/crc.nought" = some 0 := by kernel_rfl

theorem ret_w {a b : W32} (h : a = b) : Ending.returned (.int .u32 (a.toNat : Int)) = .returned (.int .u32 (b.toNat : Int)) := by rw [h]
theorem val_w {a b : W32} (h : a = b) : Value.int .u32 (a.toNat : Int) = .int .u32 (b.toNat : Int) := by rw [h]

theorem below_drewN {B : Nat} {a w : World} (h : Below B a w) (n : Nat) : Below B a (w.drewN n) := ⟨h.os, h.tape, h.output, h.size, h.block⟩

/-- The table's block. -/
def Nt (w : World) : Prop := w.var? Tryd.prog "ciborium/crc.nought" = some (nt.map fun z => Value.int .u32 z).toArray
theorem Nt.cell {w : World} (h : Nt w) (i : Nat) (hi : i < 32) : w.cell? ⟨0, i, none⟩ = some (.int .u32 ((ntw i).toNat : Int)) := by
  have := Lib.TabIs.cell (k := .u32) h gNought i hi
  rwa [nt_ntw i hi] at this
theorem Nt.block {w : World} (h : Nt w) : ∃ t fr, w.heap[0]? = some (.cells (nt.map fun z => Value.int .u32 z).toArray t fr) := by
  unfold Nt World.var? at h
  rw [gNought] at h
  simp only [Option.bind_some] at h
  split at h
  · rename_i cs t fr hc
    injection h with h
    subst h
    exact ⟨t, fr, hc⟩
  · cases h
theorem Nt.keep {w w' : World} (h : Nt w) (hb : Below w.heap.size w w') : Nt w' := by
  unfold Nt World.var? at *
  rw [gNought] at *
  simp only [Option.bind_some] at *
  have h0 : 0 < w.heap.size := by
    rcases Nat.lt_or_ge 0 w.heap.size with h' | h'
    · exact h'
    · rw [Array.getElem?_eq_none h'] at h
      cases h
  rw [hb.block _ h0]
  exact h

set_option maxHeartbeats 400000 in
set_option maxRecDepth 20000 in
theorem noughtByte_any (c : W32) (w : World) (h : Nt w) :
    Calls Tryd.prog 25 #[.int .u32 (c.toNat : Int)] w fun e w' => e = .returned (.int .u32 ((b8 c).toNat : Int)) ∧ Below w.heap.size w w' := by
  have H := Lib.hid h; clear h
  go_enter Tryd.func25, Tryd.ntmps25
  go_wp2_with fail
  go_loopw [3, 7] (fun v i wr => ∃ (k : Nat) (y : W32), y = ((c >>> 8) ^^^ tog ntw k c) ∧ k ≤ 8 ∧ i = .int .i64 (k : Int) ∧ v = .int .u32 (y.toNat : Int) ∧ Below w.heap.size w wr) (fun _ i _ => 8 - (intOf i).toNat)
  case atStart => exact ⟨0, _, rfl, by omega, rfl, by rw [tog, x0, ← shr_w]; go_num, Below.refl _ _⟩
  case round =>
    obtain ⟨k, y, hy, hk, rfl, rfl, hb⟩ := hrel
    have Hy := Lib.hid hy; clear hy
    by_cases hlt : k < 8
    · have hcell := (H.out.keep hb).cell k (by omega)
      go_wp2_with fail
      go_quiet (fail)
      go_wp2_with fail
      go_roundw
      case rel => exact ⟨k + 1, y ^^^ (if c.getLsbD k then ntw k else 0), by rw [Hy.out, tog, BitVec.xor_assoc], by omega, by go_num, by rw [fold_w], below_drewN hb _⟩
      case measure => simp [intOf]; omega
    · go_wp2_with fail
      go_ret
      obtain rfl : k = 8 := by omega
      exact ⟨ret_w (by rw [Hy.out, b8_table]), hb⟩

theorem noughtByte_at (z : Int) (c : W32) (hz : z = (c.toNat : Int)) (w : World) (h : Nt w) :
    Calls Tryd.prog 25 #[.int .u32 z] w fun e w' => e = .returned (.int .u32 ((b8 c).toNat : Int)) ∧ Below w.heap.size w w' := by
  subst hz
  exact noughtByte_any c w h

set_option maxHeartbeats 400000 in
set_option maxRecDepth 20000 in
theorem through_any (A : Option Addr) (n cp : Nat) (l : List UInt8) (c : W32) (w : World) (hs : Sl w 1 A n cp (cells l)) (h : Nt w) :
    Calls Tryd.prog 20 #[.int .u32 (c.toNat : Int), .slice A n cp] w fun e w' => e = .returned (.int .u32 ((reg c l).toNat : Int)) ∧ Below w.heap.size w w' := by
  have hn := hs.lim
  unfold maxLen at hn
  have hl := hs.len
  rw [cells_length, Nat.mul_one] at hl
  have H := Lib.hid h; clear h
  have Hs := Lib.hid hs; clear hs
  have Hl := Lib.hid hl; clear hl
  go_enter Tryd.func20, Tryd.ntmps20
  go_wp2_with fail
  go_loopw [0, 6, 9] (fun v u i wr => ∃ (k : Nat) (y : W32), y = reg c (l.take k) ∧ k ≤ n ∧ i = .int .i64 (k : Int) ∧ v = .int .u32 (y.toNat : Int) ∧ Below w.heap.size w wr) (fun _ _ i _ => n - (intOf i).toNat)
  case atStart => exact ⟨0, c, rfl, by omega, rfl, rfl, Below.refl _ _⟩
  case round =>
    obtain ⟨k, y, hy, hk, rfl, rfl, hb⟩ := hrel
    have Hy := Lib.hid hy; clear hy
    by_cases hlt : k < n
    · obtain ⟨b, o, rfl, hc⟩ := (Hs.out.below hb (Nat.le_refl _)).at_ hlt
      have hkl : k < l.length := by rw [Hl.out]; exact hlt
      have hcell := hc k _ (cells_get l k hkl)
      have Hc := Lib.hid hc; clear hc
      obtain ⟨u, hu⟩ : ∃ u, u = l[k] := ⟨_, rfl⟩
      rw [bv, ← hu] at hcell
      have Hu := Lib.hid hu; clear hu
      go_wp2_with fail
      refine (noughtByte_at _ (y ^^^ bw u) (byte_w y u) _ (H.out.keep hb)).mono ?_; rintro e w1 ⟨rfl, hb1⟩
      have hbb := hb.trans (hb1.mono hb.size)
      go_wp2_with fail
      go_roundw
      case rel => exact ⟨k + 1, _, by rw [← List.take_append_getElem hkl, reg_snoc, ← Hy.out, ← Hu.out], by omega, by go_num, rfl, hbb⟩
      case measure => simp [intOf]; omega
    · go_wp2_with fail
      go_ret
      exact ⟨ret_w (by rw [Hy.out, List.take_of_length_le (by rw [Hl.out]; omega)]), hb⟩
end Go.Proofs.YtpmjpagmddjjaaaDoor
