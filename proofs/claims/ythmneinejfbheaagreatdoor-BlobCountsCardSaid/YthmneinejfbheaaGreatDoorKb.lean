/-
  Plain mathematics of a check sum of 32 bits: the register's step ('st'), a byte's ('b8'), a text's ('reg'), what goes over sums of bits ('Lin'), many noughts at once, bursts. No program, no condition. And what goes with it below the laws of layer 13. No condition but what each theorem says.
-/
import Derived.Laws.BitsAllLaws
import Derived.Laws.Shifts
import Derived.Test.YthmneinejfbheaaGreatDoorProg
import Derived.Test.YthmneinejfbheaaGreatDoorGa
import Derived.Deep.QuietTactic
import Derived.BigQuiet
import Derived.Lib.LaidTab
import Derived.Deep.WholeRow
import Derived.Deep.RegionHeld3
import Derived.Lib.SlBytesConst
set_option linter.unusedVariables false
set_option maxRecDepth 20000
set_option maxHeartbeats 400000
namespace Go.Proofs.YthmneinejfbheaaGreatDoor
section
abbrev W32 := BitVec 32
def Lin (f : W32 → W32) : Prop := ∀ a b, f (a ^^^ b) = f a ^^^ f b
theorem Lin.zero {f : W32 → W32} (hf : Lin f) : f 0 = 0 := by
 have h := hf 0 0
 rw [BitVec.xor_self, BitVec.xor_self] at h
 exact h
theorem x0 (a : W32) : a ^^^ 0 = a := BitVec.xor_zero
theorem xor4 (a b c d : W32) : (a ^^^ b) ^^^ (c ^^^ d) = (a ^^^ c) ^^^ (b ^^^ d) := by
 rw [BitVec.xor_assoc, BitVec.xor_assoc, ← BitVec.xor_assoc b c d, BitVec.xor_comm b c, BitVec.xor_assoc c b d]
def tog (m : Nat → W32) : Nat → W32 → W32
 | 0, _ => 0
 | k + 1, w => tog m k w ^^^ (if w.getLsbD k then m k else 0)
theorem tog_congr {m m' : Nat → W32} (w : W32) : ∀ k, (∀ i, i < k → m i = m' i) → tog m k w = tog m' k w
 | 0, _ => rfl
 | k + 1, h => by rw [tog, tog, tog_congr w k (fun i hi => h i (by omega)), h k (by omega)]
theorem tog_map {f : W32 → W32} (hf : Lin f) (m : Nat → W32) (w : W32) : ∀ k, f (tog m k w) = tog (fun i => f (m i)) k w
 | 0 => hf.zero
 | k + 1 => by
  rw [tog, tog, hf, tog_map hf m w k]
  congr 1
  split
  ·rfl
  ·exact hf.zero
theorem tog_lin (m : Nat → W32) : ∀ k, Lin (tog m k)
 | 0 => fun a b => by simp [tog]
 | k + 1 => fun a b => by
  rw [tog, tog, tog, tog_lin m k a b, xor4, BitVec.getLsbD_xor]
  congr 1
  cases a.getLsbD k <;> cases b.getLsbD k <;> simp
def unit (i : Nat) : W32 := (1 : W32) <<< i
theorem unit_bit (i j : Nat) : (unit i).getLsbD j = (decide (j < 32) && decide (j = i)) := by
 unfold unit
 rw [BitVec.getLsbD_shiftLeft]
 simp only [BitVec.ofNat_eq_ofNat, BitVec.getLsbD_one]
 by_cases h : j < 32 <;> by_cases h2 : j < i <;> by_cases h3 : j = i <;> simp_all <;> omega
theorem tog_unit_bit (w : W32) (j : Nat) : ∀ k, k ≤ 32 → (tog unit k w).getLsbD j = (decide (j < k) && w.getLsbD j)
 | 0, _ => by simp [tog]
 | k + 1, hk => by
  rw [tog, BitVec.getLsbD_xor, tog_unit_bit w j k (by omega)]
  by_cases hw : w.getLsbD k
  ·rw [if_pos hw, unit_bit]
   by_cases h1 : j = k
   ·subst h1
    simp [hw]
    omega
   ·have : decide (j < k + 1) = decide (j < k) := by simp; omega
    simp [h1, this]
  ·rw [if_neg hw]
   by_cases h1 : j = k
   ·subst h1
    simp [hw]
   ·have : decide (j < k + 1) = decide (j < k) := by simp; omega
    simp [this]
theorem tog_unit (w : W32) : tog unit 32 w = w := by
 apply BitVec.eq_of_getLsbD_eq
 intro i hi
 rw [tog_unit_bit w i 32 (Nat.le_refl _)]
 simp [hi]
theorem lin_tog {f : W32 → W32} (hf : Lin f) (w : W32) : tog (fun i => f (unit i)) 32 w = f w := by
 rw [← tog_map hf, tog_unit]
theorem lin_ext {f g : W32 → W32} (hf : Lin f) (hg : Lin g) (h : ∀ i, i < 32 → f (unit i) = g (unit i)) (w : W32) : f w = g w := by
 rw [← lin_tog hf, ← lin_tog hg]
 exact tog_congr w 32 h
def rep (f : W32 → W32) : Nat → W32 → W32
 | 0, w => w
 | k + 1, w => rep f k (f w)
theorem rep_lin {f : W32 → W32} (hf : Lin f) : ∀ k, Lin (rep f k)
 | 0 => fun _ _ => rfl
 | k + 1 => fun a b => by rw [rep, rep, rep, hf, rep_lin hf k]
def poly : W32 := 0x82f63b78#32
def st (c : W32) : W32 := (c >>> 1) ^^^ (if c.getLsbD 0 then poly else 0)
theorem st_lin : Lin st := fun a b => by
 unfold st
 rw [BitVec.ushiftRight_xor_distrib, xor4, BitVec.getLsbD_xor]
 congr 1
 cases a.getLsbD 0 <;> cases b.getLsbD 0 <;> simp
def b8 (c : W32) : W32 := rep st 8 c
theorem b8_lin : Lin b8 := rep_lin st_lin 8
def bw (u : UInt8) : W32 := BitVec.ofNat 32 u.toNat
theorem bw_toNat (u : UInt8) : (bw u).toNat = u.toNat := by
 simp [bw]
def reg (c : W32) (l : List UInt8) : W32 := l.foldl (fun r x => b8 (r ^^^ bw x)) c
theorem reg_append (c : W32) (l k : List UInt8) : reg c (l ++ k) = reg (reg c l) k := List.foldl_append
theorem reg_snoc (c : W32) (l : List UInt8) (u : UInt8) : reg c (l ++ [u]) = b8 (reg c l ^^^ bw u) := by rw [reg_append]; rfl
def more (s : W32) (l : List UInt8) : W32 := ~~~reg (~~~s) l
end
section
def nt : List Int := [4067132163, 3778769143, 3348797215, 2329499855, 274646895, 549293790, 1098587580, 2197175160, 1, 2, 4, 8, 16, 32, 64, 128, 256, 512, 1024, 2048, 4096, 8192, 16384, 32768, 65536, 131072, 262144, 524288, 1048576, 2097152, 4194304, 8388608]
def ntw (i : Nat) : W32 := BitVec.ofNat 32 (nt.getD i 0).toNat
theorem nt_ntw : ∀ i, i < 32 → nt.getD i 0 = ((ntw i).toNat : Int) := by decide +kernel
theorem b8_table (c : W32) : (c >>> 8) ^^^ tog ntw 8 c = b8 c := by
 refine lin_ext (f := fun c => (c >>> 8) ^^^ tog ntw 8 c) (fun a b => ?_) b8_lin (by decide +kernel) c
 show ((a ^^^ b) >>> 8) ^^^ tog ntw 8 (a ^^^ b) = _
 rw [tog_lin ntw 8 a b, BitVec.ushiftRight_xor_distrib, xor4]
/-! The walk's words. -/
theorem toNat_lt32 (a : W32) : a.toNat < 4294967296 := a.isLt
theorem xor_w (a b : W32) : bits .xor .u32 (a.toNat : Int) (b.toNat : Int) = ((a ^^^ b).toNat : Int) := by
 rw [u32_xor_nat _ _ (toNat_lt32 a) (toNat_lt32 b), BitVec.toNat_xor]
theorem shr_w (a : W32) (k : Nat) : (a.toNat : Int) / 2 ^ k = ((a >>> k).toNat : Int) := by
 rw [BitVec.toNat_ushiftRight, Nat.shiftRight_eq_div_pow]
 simp
theorem bit_nat (a : W32) (k : Nat) : (a.toNat >>> k) &&& 1 = (if a.getLsbD k then 1 else 0) := by
 rw [BitVec.getLsbD, Nat.testBit, Nat.and_comm]
 have := Nat.and_one_is_mod (a.toNat >>> k)
 rw [Nat.and_comm] at this
 rcases Nat.mod_two_eq_zero_or_one (a.toNat >>> k) with h | h <;> simp_all
theorem pick_w (m a : W32) (k : Nat) : bits .and .u32 (m.toNat : Int) (IntKind.u32.wrap (-(bits .and .u32 ((a >>> k).toNat : Int) 1))) = ((if a.getLsbD k then m else 0 : W32).toNat : Int) := by
 have h1 : bits .and .u32 ((a >>> k).toNat : Int) 1 = ((if a.getLsbD k then 1 else 0 : Nat) : Int) := by
  have := u32_and_nat (a >>> k).toNat 1 (toNat_lt32 _) (by omega)
  rw [show ((1 : Nat) : Int) = 1 from rfl] at this
  rw [this, BitVec.toNat_ushiftRight, bit_nat]
 rw [h1]
 cases a.getLsbD k
 ·have := u32_and_nat m.toNat 0 (toNat_lt32 _) (by omega)
  simpa [IntKind.wrap_u32'] using this
 ·have := u32_and_nat m.toNat 4294967295 (toNat_lt32 _) (by omega)
  have e : m.toNat &&& 4294967295 = m.toNat := by
   rw [show (4294967295 : Nat) = 2 ^ 32 - 1 from rfl, Nat.and_two_pow_sub_one_eq_mod, Nat.mod_eq_of_lt m.isLt]
  rw [e] at this
  simpa [IntKind.wrap_u32'] using this
theorem fold_w (y m a : W32) (k : Nat) : bits .xor .u32 (y.toNat : Int) (bits .and .u32 (m.toNat : Int) (-bits .and .u32 ((a.toNat : Int) / 2 ^ k) 1 % 4294967296)) = ((y ^^^ (if a.getLsbD k then m else 0)).toNat : Int) := by
 rw [shr_w, ← IntKind.wrap_u32', pick_w, xor_w]
theorem byte_w (y : W32) (u : UInt8) : bits .xor .u32 (y.toNat : Int) ((u.toNat : Int) % 4294967296) = ((y ^^^ bw u).toNat : Int) := by
 have e : ((u.toNat : Int) % 4294967296) = ((bw u).toNat : Int) := by
  have := u.toNat_lt
  rw [bw_toNat]
  omega
 rw [e, xor_w]
theorem max_w (a : W32) : bits .xor .u32 IntKind.u32.max (a.toNat : Int) = ((~~~a).toNat : Int) := by
 have e : (IntKind.u32.max : Int) = ((BitVec.allOnes 32).toNat : Int) := by decide +kernel
 rw [e, xor_w, BitVec.xor_comm, BitVec.xor_allOnes]
/-! The document's loop: a byte's bits, one by one. -/
def rb (X : W32) : Nat → W32 → W32
 | 0, c => c
 | k + 1, c => (rb X k c >>> 1) ^^^ (if X.getLsbD k != (rb X k c).getLsbD 0 then poly else 0)
end
section
open Go.RowKit
theorem gNought : Tryz.prog.globalNamed "ciborium/crc.nought" = some 1 := by kernel_rfl
theorem ret_w {a b : W32} (h : a = b) : Ending.returned (.int .u32 (a.toNat : Int)) = .returned (.int .u32 (b.toNat : Int)) := by rw [h]
theorem below_drewN {B : Nat} {a w : World} (h : Below B a w) (n : Nat) : Below B a (w.drewN n) := ⟨h.os, h.tape, h.output, h.size, h.block⟩
def Nt (w : World) : Prop := w.var? Tryz.prog "ciborium/crc.nought" = some (nt.map fun z => Value.int .u32 z).toArray
theorem Nt.cell {w : World} (h : Nt w) (i : Nat) (hi : i < 32) : w.cell? ⟨1, i, none⟩ = some (.int .u32 ((ntw i).toNat : Int)) := by
 have := Lib.TabIs.cell (k := .u32) h gNought i hi
 rwa [nt_ntw i hi] at this
theorem Nt.block {w : World} (h : Nt w) : ∃ t fr, w.heap[1]? = some (.cells (nt.map fun z => Value.int .u32 z).toArray t fr) := by
 unfold Nt World.var? at h
 rw [gNought] at h
 simp only [Option.bind_some] at h
 split at h
 ·rename_i cs t fr hc
  injection h with h
  subst h
  exact ⟨t, fr, hc⟩
 ·cases h
theorem Nt.keep {w w' : World} (h : Nt w) (hb : Below w.heap.size w w') : Nt w' := by
 unfold Nt World.var? at *
 rw [gNought] at *
 simp only [Option.bind_some] at *
 have h0 : 1 < w.heap.size := by
  rcases Nat.lt_or_ge 1 w.heap.size with h' | h'
  ·exact h'
  ·rw [Array.getElem?_eq_none h'] at h
   cases h
 rw [hb.block _ h0]
 exact h
theorem noughtByte_any (c : W32) (w : World) (h : Nt w) :
  Calls Tryz.prog 167 #[.int .u32 (c.toNat : Int)] w fun e w' => e = .returned (.int .u32 ((b8 c).toNat : Int)) ∧ Below w.heap.size w w' := by
 have H := qH h; clear h
 go_enter Tryz.func167, Tryz.ntmps167
 go_wp2_with fail
 go_loopw [3, 7] (fun v i wr => ∃ (k : Nat) (y : W32), y = ((c >>> 8) ^^^ tog ntw k c) ∧ k ≤ 8 ∧ i = .int .i64 (k : Int) ∧ v = .int .u32 (y.toNat : Int) ∧ Below w.heap.size w wr) (fun _ i _ => 8 - (intOf i).toNat)
 case atStart => exact ⟨0, _, rfl, by omega, rfl, by rw [tog, x0, ← shr_w]; go_num, Below.refl _ _⟩
 case round =>
  obtain ⟨k, y, hy, hk, rfl, rfl, hb⟩ := hrel
  have Hy := qH hy; clear hy
  by_cases hlt : k < 8
  ·have hcell := (H.out.keep hb).cell k (by omega)
   go_wp2_with fail
   go_quiet (fail)
   go_wp2_with fail
   go_roundw
   case rel => exact ⟨k + 1, y ^^^ (if c.getLsbD k then ntw k else 0), by rw [Hy.out, tog, BitVec.xor_assoc], by omega, by go_num, by rw [fold_w], below_drewN hb _⟩
   case measure => simp [intOf]; omega
  ·go_wp2_with fail
   go_ret
   obtain rfl : k = 8 := by omega
   exact ⟨ret_w (by rw [Hy.out, b8_table]), hb⟩
theorem noughtByte_at (z : Int) (c : W32) (hz : z = (c.toNat : Int)) (w : World) (h : Nt w) :
  Calls Tryz.prog 167 #[.int .u32 z] w fun e w' => e = .returned (.int .u32 ((b8 c).toNat : Int)) ∧ Below w.heap.size w w' := by
 subst hz
 exact noughtByte_any c w h
theorem through_any (A : Option Addr) (n cp : Nat) (l : List UInt8) (c : W32) (w : World) (hs : Sl w 1 A n cp (cells l)) (h : Nt w) :
  Calls Tryz.prog 155 #[.int .u32 (c.toNat : Int), .slice A n cp] w fun e w' => e = .returned (.int .u32 ((reg c l).toNat : Int)) ∧ Below w.heap.size w w' := by
 have hn := hs.lim
 unfold maxLen at hn
 have hl := hs.len
 rw [cells_length, Nat.mul_one] at hl
 have H := qH h; clear h
 have Hs := qH hs; clear hs
 have Hl := qH hl; clear hl
 go_enter Tryz.func155, Tryz.ntmps155
 go_wp2_with fail
 go_loopw [0, 6, 9] (fun v u i wr => ∃ (k : Nat) (y : W32), y = reg c (l.take k) ∧ k ≤ n ∧ i = .int .i64 (k : Int) ∧ v = .int .u32 (y.toNat : Int) ∧ Below w.heap.size w wr) (fun _ _ i _ => n - (intOf i).toNat)
 case atStart => exact ⟨0, c, rfl, by omega, rfl, rfl, Below.refl _ _⟩
 case round =>
  obtain ⟨k, y, hy, hk, rfl, rfl, hb⟩ := hrel
  have Hy := qH hy; clear hy
  by_cases hlt : k < n
  ·obtain ⟨b, o, rfl, hc⟩ := (Hs.out.below hb (Nat.le_refl _)).at_ hlt
   have hkl : k < l.length := by rw [Hl.out]; exact hlt
   have hcell := hc k _ (cells_get l k hkl)
   have Hc := qH hc; clear hc
   obtain ⟨u, hu⟩ : ∃ u, u = l[k] := ⟨_, rfl⟩
   rw [bv, ← hu] at hcell
   have Hu := qH hu; clear hu
   go_wp2_with fail
   refine (noughtByte_at _ (y ^^^ bw u) (byte_w y u) _ (H.out.keep hb)).mono ?_; rintro e w1 ⟨rfl, hb1⟩
   have hbb := hb.trans (hb1.mono hb.size)
   go_wp2_with fail
   go_roundw
   case rel => exact ⟨k + 1, _, by rw [← List.take_append_getElem hkl, reg_snoc, ← Hy.out, ← Hu.out], by omega, by go_num, rfl, hbb⟩
   case measure => simp [intOf]; omega
  ·go_wp2_with fail
   go_ret
   exact ⟨ret_w (by rw [Hy.out, List.take_of_length_le (by rw [Hl.out]; omega)]), hb⟩
end
section
open Go.RowKit
end
section
open Go.RowKit
section
variable {W wr w1 : World} {F : Nat → W32} {k : Nat}
end
end
section
open Go.RowKit
end
section
open Go.RowKit
theorem ret_z {z : Int} {b : W32} (h : z = (b.toNat : Int)) : Ending.returned (.int .u32 z) = .returned (.int .u32 (b.toNat : Int)) := by rw [h]
theorem through_at (A : Option Addr) (n cp : Nat) (l : List UInt8) (z : Int) (c : W32) (hz : z = (c.toNat : Int)) (w : World) (hs : Sl w 1 A n cp (cells l)) (h : Nt w) :
  Calls Tryz.prog 155 #[.int .u32 z, .slice A n cp] w fun e w' => e = .returned (.int .u32 ((reg c l).toNat : Int)) ∧ Below w.heap.size w w' := by
 subst hz
 exact through_any A n cp l c w hs h
theorem more_any (A : Option Addr) (n cp : Nat) (l : List UInt8) (c : W32) (w : World) (hs : Sl w 1 A n cp (cells l)) (h : Nt w) :
  Calls Tryz.prog 138 #[.int .u32 (c.toNat : Int), .slice A n cp] w fun e w' => e = .returned (.int .u32 ((more c l).toNat : Int)) ∧ Below w.heap.size w w' := by
 have Hs := qH hs; clear hs
 have H := qH h; clear h
 go_enter Tryz.func138, Tryz.ntmps138
 go_wp2_with fail
 refine (through_at A n cp l _ (~~~c) (max_w c) _ Hs.out H.out).mono ?_; rintro e w1 ⟨rfl, hb1⟩
 go_wp2_with fail
 go_ret
 exact ⟨ret_z (max_w _), hb1⟩
theorem sum_any (A : Option Addr) (n cp : Nat) (l : List UInt8) (w : World) (hs : Sl w 1 A n cp (cells l)) (h : Nt w) :
  Calls Tryz.prog 118 #[.slice A n cp] w fun e w' => e = .returned (.int .u32 ((more 0 l).toNat : Int)) ∧ Below w.heap.size w w' := by
 have Hs := qH hs; clear hs
 have H := qH h; clear h
 go_enter Tryz.func118, Tryz.ntmps118
 go_wp2_with fail
 refine (more_any A n cp l 0 _ Hs.out H.out).mono ?_; rintro e w1 ⟨rfl, hb1⟩
 go_wp2_with fail
 go_ret
 exact ⟨rfl, hb1⟩
end
section
open Go.RowKit
end
section
open Go.RowKit
end
section
/-! Bit by bit. -/
end
end Go.Proofs.YthmneinejfbheaaGreatDoor
