/-
  Plain mathematics of a check sum of 32 bits: the register's step ('st'), a byte's ('b8'), a text's ('reg'), what goes over sums of bits ('Lin'), many noughts at once, bursts. No program, no condition. And what goes with it below the laws of layer 13. No condition but what each theorem says.
-/
import Derived.Laws.BitsAllLaws
import Derived.Laws.Shifts
import Derived.Test.YtokbhgbajdomnaaGreatDoorProg
import Derived.Test.YtokbhgbajdomnaaGreatDoorGa
import Derived.Deep.QuietTactic
import Derived.BigQuiet
import Derived.Lib.LaidTab
import Derived.Deep.WholeRow
import Derived.Deep.RegionHeld3
import Derived.Lib.SlBytesConst
set_option linter.unusedVariables false
set_option maxRecDepth 20000
set_option maxHeartbeats 400000
namespace Go.Proofs.YtokbhgbajdomnaaGreatDoor
section
abbrev W32 := BitVec 32
def Lin (f : W32 → W32) : Prop := ∀ a b, f (a ^^^ b) = f a ^^^ f b
theorem Lin.zero {f : W32 → W32} (hf : Lin f) : f 0 = 0 := by
 have h := hf 0 0
 rw [BitVec.xor_self, BitVec.xor_self] at h
 exact h
theorem x0 (a : W32) : a ^^^ 0 = a := BitVec.xor_zero
theorem zx (a : W32) : 0 ^^^ a = a := BitVec.zero_xor
theorem xor4 (a b c d : W32) : (a ^^^ b) ^^^ (c ^^^ d) = (a ^^^ c) ^^^ (b ^^^ d) := by
 rw [BitVec.xor_assoc, BitVec.xor_assoc, ← BitVec.xor_assoc b c d, BitVec.xor_comm b c, BitVec.xor_assoc c b d]
def tog (m : Nat → W32) : Nat → W32 → W32
 | 0, _ => 0
 | k + 1, w => tog m k w ^^^ (if w.getLsbD k then m k else 0)
theorem tog_congr {m m' : Nat → W32} (w : W32) : ∀ k, (∀ i, i < k → m i = m' i) → tog m k w = tog m' k w
 | 0, _ => rfl
 | k + 1, h => by rw [tog, tog, tog_congr w k (fun i hi => h i (by omega)), h k (by omega)]
theorem tog_map {f : W32 → W32} (hf : Lin f) (m : Nat → W32) (w : W32) : ∀ k, f (tog m k w) = tog (fun i => f (m i)) k w
 | 0 => hf.zero
 | k + 1 => by
  rw [tog, tog, hf, tog_map hf m w k]
  congr 1
  split
  ·rfl
  ·exact hf.zero
theorem tog_lin (m : Nat → W32) : ∀ k, Lin (tog m k)
 | 0 => fun a b => by simp [tog]
 | k + 1 => fun a b => by
  rw [tog, tog, tog, tog_lin m k a b, xor4, BitVec.getLsbD_xor]
  congr 1
  cases a.getLsbD k <;> cases b.getLsbD k <;> simp
def unit (i : Nat) : W32 := (1 : W32) <<< i
theorem unit_bit (i j : Nat) : (unit i).getLsbD j = (decide (j < 32) && decide (j = i)) := by
 unfold unit
 rw [BitVec.getLsbD_shiftLeft]
 simp only [BitVec.ofNat_eq_ofNat, BitVec.getLsbD_one]
 by_cases h : j < 32 <;> by_cases h2 : j < i <;> by_cases h3 : j = i <;> simp_all <;> omega
theorem tog_unit_bit (w : W32) (j : Nat) : ∀ k, k ≤ 32 → (tog unit k w).getLsbD j = (decide (j < k) && w.getLsbD j)
 | 0, _ => by simp [tog]
 | k + 1, hk => by
  rw [tog, BitVec.getLsbD_xor, tog_unit_bit w j k (by omega)]
  by_cases hw : w.getLsbD k
  ·rw [if_pos hw, unit_bit]
   by_cases h1 : j = k
   ·subst h1
    simp [hw]
    omega
   ·have : decide (j < k + 1) = decide (j < k) := by simp; omega
    simp [h1, this]
  ·rw [if_neg hw]
   by_cases h1 : j = k
   ·subst h1
    simp [hw]
   ·have : decide (j < k + 1) = decide (j < k) := by simp; omega
    simp [this]
theorem tog_unit (w : W32) : tog unit 32 w = w := by
 apply BitVec.eq_of_getLsbD_eq
 intro i hi
 rw [tog_unit_bit w i 32 (Nat.le_refl _)]
 simp [hi]
theorem lin_tog {f : W32 → W32} (hf : Lin f) (w : W32) : tog (fun i => f (unit i)) 32 w = f w := by
 rw [← tog_map hf, tog_unit]
theorem lin_ext {f g : W32 → W32} (hf : Lin f) (hg : Lin g) (h : ∀ i, i < 32 → f (unit i) = g (unit i)) (w : W32) : f w = g w := by
 rw [← lin_tog hf, ← lin_tog hg]
 exact tog_congr w 32 h
def rep (f : W32 → W32) : Nat → W32 → W32
 | 0, w => w
 | k + 1, w => rep f k (f w)
theorem rep_add (f : W32 → W32) : ∀ a b w, rep f (a + b) w = rep f b (rep f a w)
 | 0, b, w => by rw [Nat.zero_add]; rfl
 | a + 1, b, w => by rw [show a + 1 + b = (a + b) + 1 from by omega, rep, rep, rep_add f a b]
theorem rep_lin {f : W32 → W32} (hf : Lin f) : ∀ k, Lin (rep f k)
 | 0 => fun _ _ => rfl
 | k + 1 => fun a b => by rw [rep, rep, rep, hf, rep_lin hf k]
theorem rep_succ' (f : W32 → W32) (k : Nat) (w : W32) : rep f (k + 1) w = f (rep f k w) := by rw [rep_add f k 1]; rfl
def poly : W32 := 0x82f63b78#32
def st (c : W32) : W32 := (c >>> 1) ^^^ (if c.getLsbD 0 then poly else 0)
theorem st_lin : Lin st := fun a b => by
 unfold st
 rw [BitVec.ushiftRight_xor_distrib, xor4, BitVec.getLsbD_xor]
 congr 1
 cases a.getLsbD 0 <;> cases b.getLsbD 0 <;> simp
theorem st_inj {c : W32} (h : st c = 0) : c = 0 := by
 unfold st at h
 by_cases hb : c.getLsbD 0
 ·rw [if_pos hb] at h
  have := congrArg (·.getLsbD 31) h
  simp [poly] at this
 ·rw [if_neg hb] at h
  apply BitVec.eq_of_getLsbD_eq
  intro i hi
  rcases i with _ | i
  ·simpa using hb
  ·have := congrArg (·.getLsbD i) h
   simpa [Nat.add_comm] using this
theorem rep_st_inj : ∀ k (c : W32), rep st k c = 0 → c = 0
 | 0, _, h => h
 | k + 1, _, h => st_inj (rep_st_inj k _ h)
def b8 (c : W32) : W32 := rep st 8 c
theorem b8_lin : Lin b8 := rep_lin st_lin 8
def bw (u : UInt8) : W32 := BitVec.ofNat 32 u.toNat
theorem bw_toNat (u : UInt8) : (bw u).toNat = u.toNat := by
 simp [bw]
theorem bw_bit (u : UInt8) (j : Nat) (h : 8 ≤ j) : (bw u).getLsbD j = false := by
 rw [BitVec.getLsbD, bw_toNat, Nat.testBit_lt_two_pow]
 exact Nat.lt_of_lt_of_le u.toNat_lt (Nat.pow_le_pow_right (by omega) h)
theorem bw_shift (u : UInt8) : bw u >>> 8 = 0 := by
 apply BitVec.eq_of_getLsbD_eq
 intro i hi
 rw [BitVec.getLsbD_ushiftRight, bw_bit u _ (by omega)]
 exact BitVec.getLsbD_zero.symm
theorem bw_xor (u v : UInt8) : bw (u ^^^ v) = bw u ^^^ bw v := by
 apply BitVec.eq_of_toNat_eq
 rw [BitVec.toNat_xor, bw_toNat, bw_toNat, bw_toNat, UInt8.toNat_xor]
def reg (c : W32) (l : List UInt8) : W32 := l.foldl (fun r x => b8 (r ^^^ bw x)) c
theorem reg_append (c : W32) (l k : List UInt8) : reg c (l ++ k) = reg (reg c l) k := List.foldl_append
theorem reg_snoc (c : W32) (l : List UInt8) (u : UInt8) : reg c (l ++ [u]) = b8 (reg c l ^^^ bw u) := by rw [reg_append]; rfl
def more (s : W32) (l : List UInt8) : W32 := ~~~reg (~~~s) l
theorem not_eq (a : W32) : ~~~a = a ^^^ BitVec.allOnes 32 := by rw [BitVec.xor_allOnes]
theorem more_more (a b : List UInt8) : more (more 0 a) b = more 0 (a ++ b) := by
 unfold more
 rw [BitVec.not_not, reg_append]
end
section
def nt : List Int := [4067132163, 3778769143, 3348797215, 2329499855, 274646895, 549293790, 1098587580, 2197175160, 1, 2, 4, 8, 16, 32, 64, 128, 256, 512, 1024, 2048, 4096, 8192, 16384, 32768, 65536, 131072, 262144, 524288, 1048576, 2097152, 4194304, 8388608]
def ntw (i : Nat) : W32 := BitVec.ofNat 32 (nt.getD i 0).toNat
theorem nt_ntw : ∀ i, i < 32 → nt.getD i 0 = ((ntw i).toNat : Int) := by decide +kernel
theorem b8_table (c : W32) : (c >>> 8) ^^^ tog ntw 8 c = b8 c := by
 refine lin_ext (f := fun c => (c >>> 8) ^^^ tog ntw 8 c) (fun a b => ?_) b8_lin (by decide +kernel) c
 show ((a ^^^ b) >>> 8) ^^^ tog ntw 8 (a ^^^ b) = _
 rw [tog_lin ntw 8 a b, BitVec.ushiftRight_xor_distrib, xor4]
/-! The walk's words. -/
theorem toNat_lt32 (a : W32) : a.toNat < 4294967296 := a.isLt
theorem xor_w (a b : W32) : bits .xor .u32 (a.toNat : Int) (b.toNat : Int) = ((a ^^^ b).toNat : Int) := by
 rw [u32_xor_nat _ _ (toNat_lt32 a) (toNat_lt32 b), BitVec.toNat_xor]
theorem shr_w (a : W32) (k : Nat) : (a.toNat : Int) / 2 ^ k = ((a >>> k).toNat : Int) := by
 rw [BitVec.toNat_ushiftRight, Nat.shiftRight_eq_div_pow]
 simp
theorem bit_nat (a : W32) (k : Nat) : (a.toNat >>> k) &&& 1 = (if a.getLsbD k then 1 else 0) := by
 rw [BitVec.getLsbD, Nat.testBit, Nat.and_comm]
 have := Nat.and_one_is_mod (a.toNat >>> k)
 rw [Nat.and_comm] at this
 rcases Nat.mod_two_eq_zero_or_one (a.toNat >>> k) with h | h <;> simp_all
theorem pick_w (m a : W32) (k : Nat) : bits .and .u32 (m.toNat : Int) (IntKind.u32.wrap (-(bits .and .u32 ((a >>> k).toNat : Int) 1))) = ((if a.getLsbD k then m else 0 : W32).toNat : Int) := by
 have h1 : bits .and .u32 ((a >>> k).toNat : Int) 1 = ((if a.getLsbD k then 1 else 0 : Nat) : Int) := by
  have := u32_and_nat (a >>> k).toNat 1 (toNat_lt32 _) (by omega)
  rw [show ((1 : Nat) : Int) = 1 from rfl] at this
  rw [this, BitVec.toNat_ushiftRight, bit_nat]
 rw [h1]
 cases a.getLsbD k
 ·have := u32_and_nat m.toNat 0 (toNat_lt32 _) (by omega)
  simpa [IntKind.wrap_u32'] using this
 ·have := u32_and_nat m.toNat 4294967295 (toNat_lt32 _) (by omega)
  have e : m.toNat &&& 4294967295 = m.toNat := by
   rw [show (4294967295 : Nat) = 2 ^ 32 - 1 from rfl, Nat.and_two_pow_sub_one_eq_mod, Nat.mod_eq_of_lt m.isLt]
  rw [e] at this
  simpa [IntKind.wrap_u32'] using this
theorem fold_w (y m a : W32) (k : Nat) : bits .xor .u32 (y.toNat : Int) (bits .and .u32 (m.toNat : Int) (-bits .and .u32 ((a.toNat : Int) / 2 ^ k) 1 % 4294967296)) = ((y ^^^ (if a.getLsbD k then m else 0)).toNat : Int) := by
 rw [shr_w, ← IntKind.wrap_u32', pick_w, xor_w]
theorem byte_w (y : W32) (u : UInt8) : bits .xor .u32 (y.toNat : Int) ((u.toNat : Int) % 4294967296) = ((y ^^^ bw u).toNat : Int) := by
 have e : ((u.toNat : Int) % 4294967296) = ((bw u).toNat : Int) := by
  have := u.toNat_lt
  rw [bw_toNat]
  omega
 rw [e, xor_w]
theorem max_w (a : W32) : bits .xor .u32 IntKind.u32.max (a.toNat : Int) = ((~~~a).toNat : Int) := by
 have e : (IntKind.u32.max : Int) = ((BitVec.allOnes 32).toNat : Int) := by decide +kernel
 rw [e, xor_w, BitVec.xor_comm, BitVec.xor_allOnes]
/-! The document's loop: a byte's bits, one by one. -/
def rb (X : W32) : Nat → W32 → W32
 | 0, c => c
 | k + 1, c => (rb X k c >>> 1) ^^^ (if X.getLsbD k != (rb X k c).getLsbD 0 then poly else 0)
theorem shr_shr (X : W32) (k : Nat) : (X >>> k) >>> 1 = X >>> (k + 1) := by rw [← BitVec.shiftRight_add]
theorem rb_st (X c : W32) : ∀ k, rb X k c ^^^ (X >>> k) = rep st k (c ^^^ X)
 | 0 => by simp [rb, rep]
 | k + 1 => by
  rw [rep_succ', ← rb_st X c k, st, BitVec.ushiftRight_xor_distrib, shr_shr, rb, BitVec.getLsbD_xor, BitVec.getLsbD_ushiftRight, Nat.add_zero, BitVec.xor_assoc, BitVec.xor_assoc, BitVec.xor_comm (X >>> (k + 1))]
  congr 2
  cases (rb X k c).getLsbD 0 <;> cases X.getLsbD k <;> rfl
theorem rb_byte (u : UInt8) (c : W32) : rb (bw u) 8 c = b8 (c ^^^ bw u) := by
 have := rb_st (bw u) c 8
 rwa [bw_shift, x0] at this
end
section
open Go.RowKit
def uv (c : W32) : Value := .int .u32 (c.toNat : Int)
theorem gNought : Tryz.prog.globalNamed "ciborium/crc.nought" = some 1 := by kernel_rfl
theorem ret_w {a b : W32} (h : a = b) : Ending.returned (.int .u32 (a.toNat : Int)) = .returned (.int .u32 (b.toNat : Int)) := by rw [h]
theorem below_drewN {B : Nat} {a w : World} (h : Below B a w) (n : Nat) : Below B a (w.drewN n) := ⟨h.os, h.tape, h.output, h.size, h.block⟩
def Nt (w : World) : Prop := w.var? Tryz.prog "ciborium/crc.nought" = some (nt.map fun z => Value.int .u32 z).toArray
theorem Nt.cell {w : World} (h : Nt w) (i : Nat) (hi : i < 32) : w.cell? ⟨1, i, none⟩ = some (.int .u32 ((ntw i).toNat : Int)) := by
 have := Lib.TabIs.cell (k := .u32) h gNought i hi
 rwa [nt_ntw i hi] at this
theorem Nt.block {w : World} (h : Nt w) : ∃ t fr, w.heap[1]? = some (.cells (nt.map fun z => Value.int .u32 z).toArray t fr) := by
 unfold Nt World.var? at h
 rw [gNought] at h
 simp only [Option.bind_some] at h
 split at h
 ·rename_i cs t fr hc
  injection h with h
  subst h
  exact ⟨t, fr, hc⟩
 ·cases h
theorem Nt.keep {w w' : World} (h : Nt w) (hb : Below w.heap.size w w') : Nt w' := by
 unfold Nt World.var? at *
 rw [gNought] at *
 simp only [Option.bind_some] at *
 have h0 : 1 < w.heap.size := by
  rcases Nat.lt_or_ge 1 w.heap.size with h' | h'
  ·exact h'
  ·rw [Array.getElem?_eq_none h'] at h
   cases h
 rw [hb.block _ h0]
 exact h
theorem noughtByte_any (c : W32) (w : World) (h : Nt w) :
  Calls Tryz.prog 239 #[.int .u32 (c.toNat : Int)] w fun e w' => e = .returned (.int .u32 ((b8 c).toNat : Int)) ∧ Below w.heap.size w w' := by
 have H := qH h; clear h
 go_enter Tryz.func239, Tryz.ntmps239
 go_wp2_with fail
 go_loopw [3, 7] (fun v i wr => ∃ (k : Nat) (y : W32), y = ((c >>> 8) ^^^ tog ntw k c) ∧ k ≤ 8 ∧ i = .int .i64 (k : Int) ∧ v = .int .u32 (y.toNat : Int) ∧ Below w.heap.size w wr) (fun _ i _ => 8 - (intOf i).toNat)
 case atStart => exact ⟨0, _, rfl, by omega, rfl, by rw [tog, x0, ← shr_w]; go_num, Below.refl _ _⟩
 case round =>
  obtain ⟨k, y, hy, hk, rfl, rfl, hb⟩ := hrel
  have Hy := qH hy; clear hy
  by_cases hlt : k < 8
  ·have hcell := (H.out.keep hb).cell k (by omega)
   go_wp2_with fail
   go_quiet (fail)
   go_wp2_with fail
   go_roundw
   case rel => exact ⟨k + 1, y ^^^ (if c.getLsbD k then ntw k else 0), by rw [Hy.out, tog, BitVec.xor_assoc], by omega, by go_num, by rw [fold_w], below_drewN hb _⟩
   case measure => simp [intOf]; omega
  ·go_wp2_with fail
   go_ret
   obtain rfl : k = 8 := by omega
   exact ⟨ret_w (by rw [Hy.out, b8_table]), hb⟩
theorem noughtByte_at (z : Int) (c : W32) (hz : z = (c.toNat : Int)) (w : World) (h : Nt w) :
  Calls Tryz.prog 239 #[.int .u32 z] w fun e w' => e = .returned (.int .u32 ((b8 c).toNat : Int)) ∧ Below w.heap.size w w' := by
 subst hz
 exact noughtByte_any c w h
theorem through_any (A : Option Addr) (n cp : Nat) (l : List UInt8) (c : W32) (w : World) (hs : Sl w 1 A n cp (cells l)) (h : Nt w) :
  Calls Tryz.prog 226 #[.int .u32 (c.toNat : Int), .slice A n cp] w fun e w' => e = .returned (.int .u32 ((reg c l).toNat : Int)) ∧ Below w.heap.size w w' := by
 have hn := hs.lim
 unfold maxLen at hn
 have hl := hs.len
 rw [cells_length, Nat.mul_one] at hl
 have H := qH h; clear h
 have Hs := qH hs; clear hs
 have Hl := qH hl; clear hl
 go_enter Tryz.func226, Tryz.ntmps226
 go_wp2_with fail
 go_loopw [0, 6, 9] (fun v u i wr => ∃ (k : Nat) (y : W32), y = reg c (l.take k) ∧ k ≤ n ∧ i = .int .i64 (k : Int) ∧ v = .int .u32 (y.toNat : Int) ∧ Below w.heap.size w wr) (fun _ _ i _ => n - (intOf i).toNat)
 case atStart => exact ⟨0, c, rfl, by omega, rfl, rfl, Below.refl _ _⟩
 case round =>
  obtain ⟨k, y, hy, hk, rfl, rfl, hb⟩ := hrel
  have Hy := qH hy; clear hy
  by_cases hlt : k < n
  ·obtain ⟨b, o, rfl, hc⟩ := (Hs.out.below hb (Nat.le_refl _)).at_ hlt
   have hkl : k < l.length := by rw [Hl.out]; exact hlt
   have hcell := hc k _ (cells_get l k hkl)
   have Hc := qH hc; clear hc
   obtain ⟨u, hu⟩ : ∃ u, u = l[k] := ⟨_, rfl⟩
   rw [bv, ← hu] at hcell
   have Hu := qH hu; clear hu
   go_wp2_with fail
   refine (noughtByte_at _ (y ^^^ bw u) (byte_w y u) _ (H.out.keep hb)).mono ?_; rintro e w1 ⟨rfl, hb1⟩
   have hbb := hb.trans (hb1.mono hb.size)
   go_wp2_with fail
   go_roundw
   case rel => exact ⟨k + 1, _, by rw [← List.take_append_getElem hkl, reg_snoc, ← Hy.out, ← Hu.out], by omega, by go_num, rfl, hbb⟩
   case measure => simp [intOf]; omega
  ·go_wp2_with fail
   go_ret
   exact ⟨ret_w (by rw [Hy.out, List.take_of_length_le (by rw [Hl.out]; omega)]), hb⟩
end
section
open Go.RowKit
end
section
open Go.RowKit
section
variable {W wr w1 : World} {F : Nat → W32} {k : Nat}
end
end
section
open Go.RowKit
end
section
open Go.RowKit
theorem ret_z {z : Int} {b : W32} (h : z = (b.toNat : Int)) : Ending.returned (.int .u32 z) = .returned (.int .u32 (b.toNat : Int)) := by rw [h]
theorem through_at (A : Option Addr) (n cp : Nat) (l : List UInt8) (z : Int) (c : W32) (hz : z = (c.toNat : Int)) (w : World) (hs : Sl w 1 A n cp (cells l)) (h : Nt w) :
  Calls Tryz.prog 226 #[.int .u32 z, .slice A n cp] w fun e w' => e = .returned (.int .u32 ((reg c l).toNat : Int)) ∧ Below w.heap.size w w' := by
 subst hz
 exact through_any A n cp l c w hs h
theorem more_any (A : Option Addr) (n cp : Nat) (l : List UInt8) (c : W32) (w : World) (hs : Sl w 1 A n cp (cells l)) (h : Nt w) :
  Calls Tryz.prog 209 #[.int .u32 (c.toNat : Int), .slice A n cp] w fun e w' => e = .returned (.int .u32 ((more c l).toNat : Int)) ∧ Below w.heap.size w w' := by
 have Hs := qH hs; clear hs
 have H := qH h; clear h
 go_enter Tryz.func209, Tryz.ntmps209
 go_wp2_with fail
 refine (through_at A n cp l _ (~~~c) (max_w c) _ Hs.out H.out).mono ?_; rintro e w1 ⟨rfl, hb1⟩
 go_wp2_with fail
 go_ret
 exact ⟨ret_z (max_w _), hb1⟩
theorem sum_any (A : Option Addr) (n cp : Nat) (l : List UInt8) (w : World) (hs : Sl w 1 A n cp (cells l)) (h : Nt w) :
  Calls Tryz.prog 187 #[.slice A n cp] w fun e w' => e = .returned (.int .u32 ((more 0 l).toNat : Int)) ∧ Below w.heap.size w w' := by
 have Hs := qH hs; clear hs
 have H := qH h; clear h
 go_enter Tryz.func187, Tryz.ntmps187
 go_wp2_with fail
 refine (more_any A n cp l 0 _ Hs.out H.out).mono ?_; rintro e w1 ⟨rfl, hb1⟩
 go_wp2_with fail
 go_ret
 exact ⟨rfl, hb1⟩
end
section
open Go.RowKit
end
section
open Go.RowKit
end
section
def chg (l : List UInt8) (k : Nat) (mask : List UInt8) (i : Nat) : List UInt8 := l.mapIdx fun j u => if k ≤ j ∧ j < k + i then u ^^^ mask.getD (j - k) 0 else u
theorem chg_length (l : List UInt8) (k : Nat) (mask : List UInt8) (i : Nat) : (chg l k mask i).length = l.length := by simp [chg]
/-! Bit by bit. -/
def regb (f : Nat → Bool) : Nat → W32 → W32
 | 0, c => c
 | n + 1, c => st (regb f n c ^^^ (if f n then 1 else 0))
theorem regb_congr {f g : Nat → Bool} (c : W32) : ∀ n, (∀ x, x < n → f x = g x) → regb f n c = regb g n c
 | 0, _ => rfl
 | n + 1, h => by rw [regb, regb, regb_congr c n (fun x hx => h x (by omega)), h n (by omega)]
theorem regb_xor (f g : Nat → Bool) (c d : W32) : ∀ n, regb (fun x => f x ^^ g x) n (c ^^^ d) = regb f n c ^^^ regb g n d
 | 0 => rfl
 | n + 1 => by
  rw [regb, regb, regb, regb_xor f g c d n, ← st_lin, xor4]
  congr 2
  cases f n <;> cases g n <;> rfl
theorem regb_rest {f : Nat → Bool} (n : Nat) (c : W32) : ∀ m, (∀ x, n ≤ x → x < n + m → f x = false) → regb f (n + m) c = rep st m (regb f n c)
 | 0, _ => rfl
 | m + 1, h => by
  rw [← Nat.add_assoc, regb, regb_rest n c m (fun x h1 h2 => h x h1 (by omega)), h (n + m) (by omega) (by omega), rep_succ']
  congr 1
  exact x0 _
theorem rep_st_zero (m : Nat) : rep st m 0 = 0 := (rep_lin st_lin m).zero
theorem st_bit (d : W32) (b : Bool) : st (d ^^^ (if b then 1 else 0)) = (d >>> 1) ^^^ (if b != d.getLsbD 0 then poly else 0) := by
 rw [st, BitVec.ushiftRight_xor_distrib, BitVec.getLsbD_xor]
 cases b
 ·simp
 ·have e : ((if true = true then 1 else 0 : W32)) >>> 1 = 0 := by decide
  have e2 : ((if true = true then 1 else 0 : W32)).getLsbD 0 = true := by decide
  rw [e, e2, x0]
  cases d.getLsbD 0 <;> rfl
theorem regb_word {f : Nat → Bool} (X : W32) (s : Nat) (c : W32) : ∀ k, (∀ j, j < k → f (s + j) = X.getLsbD j) → regb f (s + k) c = rb X k (regb f s c)
 | 0, _ => rfl
 | k + 1, h => by rw [← Nat.add_assoc, regb, regb_word X s c k (fun j hj => h j (by omega)), h k (by omega), st_bit, rb]
def bitAt (l : List UInt8) (x : Nat) : Bool := (bw (l.getD (x / 8) 0)).getLsbD (x % 8)
theorem reg_bits (c : W32) (l : List UInt8) : ∀ k, k ≤ l.length → regb (bitAt l) (8 * k) c = reg c (l.take k)
 | 0, _ => rfl
 | k + 1, h => by
  have hk : k < l.length := by omega
  rw [Nat.mul_succ, regb_word (bw l[k]) (8 * k) c 8 (fun j hj => ?_), reg_bits c l k (by omega), ← List.take_append_getElem hk, reg_snoc, rb_byte]
  rw [bitAt, show (8 * k + j) / 8 = k from by omega, show (8 * k + j) % 8 = j from by omega, List.getD_eq_getElem?_getD, List.getElem?_eq_getElem hk]
  rfl
structure Flip (l L : List UInt8) (s : Nat) (mask : W32) (i : Nat) : Prop where
 len : L.length = l.length
 bit : ∀ x, x < 8 * l.length → bitAt L x = (bitAt l x ^^ (decide (s ≤ x ∧ x < s + i) && mask.getLsbD (x - s)))
theorem Flip.sums {l L : List UInt8} {s : Nat} {mask : W32} (h : Flip l L s mask 32) (hs : s + 32 ≤ 8 * l.length) (hm : mask ≠ 0) : more 0 L ≠ more 0 l := by
 intro he
 unfold more at he
 have he2 : reg (~~~0) L = reg (~~~0) l := by
  have := congrArg (fun z : W32 => ~~~z) he
  simpa using this
 generalize (~~~0 : W32) = c at he2
 have a1 := reg_bits c L L.length (Nat.le_refl _)
 have a2 := reg_bits c l l.length (Nat.le_refl _)
 rw [List.take_length] at a1 a2
 let mm : Nat → Bool := fun x => decide (s ≤ x ∧ x < s + 32) && mask.getLsbD (x - s)
 have a3 : regb (bitAt L) (8 * L.length) c = regb (bitAt l) (8 * l.length) c ^^^ regb mm (8 * l.length) 0 := by
  have := regb_xor (bitAt l) mm c 0 (8 * l.length)
  rw [x0] at this
  rw [← this, h.len]
  exact regb_congr c _ (fun x hx => h.bit x hx)
 have a4 : regb mm (8 * l.length) 0 = rep st (8 * l.length - (s + 32)) (rep st 32 mask) := by
  obtain ⟨k, hk⟩ : ∃ k, 8 * l.length = s + 32 + k := ⟨8 * l.length - (s + 32), by omega⟩
  rw [hk, regb_rest (s + 32) 0 k (fun x h1 h2 => ?_), regb_word mask s 0 32 (fun j hj => ?_)]
  ·have b1 : regb mm s 0 = 0 := by
    have := regb_rest (f := mm) 0 0 s (fun x h1 h2 => ?_)
    ·rw [Nat.zero_add] at this
     rw [this]
     exact rep_st_zero s
    ·show (decide (s ≤ x ∧ x < s + 32) && _) = false
     rw [decide_eq_false (by omega)]
     rfl
   have b2 := rb_st mask 0 32
   have b3 : mask >>> 32 = 0 := by
    apply BitVec.eq_of_toNat_eq
    rw [BitVec.toNat_ushiftRight, Nat.shiftRight_eq_div_pow, Nat.div_eq_of_lt mask.isLt]
    rfl
   rw [b3, x0, zx] at b2
   rw [b1, b2, show s + 32 + k - (s + 32) = k from by omega]
  ·show (decide (s ≤ s + j ∧ s + j < s + 32) && mask.getLsbD (s + j - s)) = _
   rw [decide_eq_true (by omega), show s + j - s = j from by omega]
   rfl
  ·show (decide (s ≤ x ∧ x < s + 32) && _) = false
   rw [decide_eq_false (by omega)]
   rfl
 rw [a4] at a3
 rw [← a1, ← a2, a3] at he2
 have a5 : rep st (8 * l.length - (s + 32)) (rep st 32 mask) = 0 := by
  have := congrArg (fun z : W32 => regb (bitAt l) (8 * l.length) c ^^^ z) he2
  simp only [← BitVec.xor_assoc, BitVec.xor_self, BitVec.zero_xor] at this
  exact this
 exact hm (rep_st_inj 32 _ (rep_st_inj _ _ a5))
end
end Go.Proofs.YtokbhgbajdomnaaGreatDoor
