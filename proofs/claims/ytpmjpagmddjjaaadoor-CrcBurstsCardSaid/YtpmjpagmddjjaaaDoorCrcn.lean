/-
  Plain mathematics of the check sum, going on: the table of a nought byte, what the program's loops make (words of the walk's own spelling), the document's loop bit by bit, bits turned within 32. No program, no condition.
-/
import Derived.Test.YtpmjpagmddjjaaaDoorCrcm
import Derived.Laws.BitsAllLaws
import Derived.Laws.Shifts
namespace Go.Proofs.YtpmjpagmddjjaaaDoor

/-- What a nought byte makes of each bit. -/
def nt : List Int := [4067132163, 3778769143, 3348797215, 2329499855, 274646895, 549293790, 1098587580, 2197175160, 1, 2, 4, 8, 16, 32, 64, 128, 256, 512, 1024, 2048, 4096, 8192, 16384, 32768, 65536, 131072, 262144, 524288, 1048576, 2097152, 4194304, 8388608]
def ntw (i : Nat) : W32 := BitVec.ofNat 32 (nt.getD i 0).toNat

theorem ntw_unit : ∀ i, i < 32 → ntw i = b8 (unit i) := by decide +kernel
theorem nt_ntw : ∀ i, i < 32 → nt.getD i 0 = ((ntw i).toNat : Int) := by decide +kernel

/-- A nought byte, the upper bits moved all at once. -/
theorem b8_table (c : W32) : (c >>> 8) ^^^ tog ntw 8 c = b8 c := by
  refine lin_ext (f := fun c => (c >>> 8) ^^^ tog ntw 8 c) (fun a b => ?_) b8_lin (by decide +kernel) c
  show ((a ^^^ b) >>> 8) ^^^ tog ntw 8 (a ^^^ b) = _
  rw [tog_lin ntw 8 a b, BitVec.ushiftRight_xor_distrib, xor4]
theorem b8_whole (c : W32) : tog ntw 32 c = b8 c := by
  rw [← lin_tog b8_lin]
  exact tog_congr c 32 ntw_unit

/-! The walk's words. -/
theorem toNat_lt32 (a : W32) : a.toNat < 4294967296 := a.isLt
theorem xor_w (a b : W32) : bits .xor .u32 (a.toNat : Int) (b.toNat : Int) = ((a ^^^ b).toNat : Int) := by
  rw [u32_xor_nat _ _ (toNat_lt32 a) (toNat_lt32 b), BitVec.toNat_xor]
theorem shr_w (a : W32) (k : Nat) : (a.toNat : Int) / 2 ^ k = ((a >>> k).toNat : Int) := by
  rw [BitVec.toNat_ushiftRight, Nat.shiftRight_eq_div_pow]
  simp
theorem bit_nat (a : W32) (k : Nat) : (a.toNat >>> k) &&& 1 = (if a.getLsbD k then 1 else 0) := by
  rw [BitVec.getLsbD, Nat.testBit, Nat.and_comm]
  have := Nat.and_one_is_mod (a.toNat >>> k)
  rw [Nat.and_comm] at this
  rcases Nat.mod_two_eq_zero_or_one (a.toNat >>> k) with h | h <;> simp_all
theorem pick_w (m a : W32) (k : Nat) : bits .and .u32 (m.toNat : Int) (IntKind.u32.wrap (-(bits .and .u32 ((a >>> k).toNat : Int) 1))) = ((if a.getLsbD k then m else 0 : W32).toNat : Int) := by
  have h1 : bits .and .u32 ((a >>> k).toNat : Int) 1 = ((if a.getLsbD k then 1 else 0 : Nat) : Int) := by
    have := u32_and_nat (a >>> k).toNat 1 (toNat_lt32 _) (by omega)
    rw [show ((1 : Nat) : Int) = 1 from rfl] at this
    rw [this, BitVec.toNat_ushiftRight, bit_nat]
  rw [h1]
  cases a.getLsbD k
  · have := u32_and_nat m.toNat 0 (toNat_lt32 _) (by omega)
    simpa [IntKind.wrap_u32'] using this
  · have := u32_and_nat m.toNat 4294967295 (toNat_lt32 _) (by omega)
    have e : m.toNat &&& 4294967295 = m.toNat := by
      rw [show (4294967295 : Nat) = 2 ^ 32 - 1 from rfl, Nat.and_two_pow_sub_one_eq_mod, Nat.mod_eq_of_lt m.isLt]
    rw [e] at this
    simpa [IntKind.wrap_u32'] using this
theorem fold_w (y m a : W32) (k : Nat) : bits .xor .u32 (y.toNat : Int) (bits .and .u32 (m.toNat : Int) (-bits .and .u32 ((a.toNat : Int) / 2 ^ k) 1 % 4294967296)) = ((y ^^^ (if a.getLsbD k then m else 0)).toNat : Int) := by
  rw [shr_w, ← IntKind.wrap_u32', pick_w, xor_w]
theorem byte_w (y : W32) (u : UInt8) : bits .xor .u32 (y.toNat : Int) ((u.toNat : Int) % 4294967296) = ((y ^^^ bw u).toNat : Int) := by
  have e : ((u.toNat : Int) % 4294967296) = ((bw u).toNat : Int) := by
    have := u.toNat_lt
    rw [bw_toNat]
    omega
  rw [e, xor_w]
theorem unit_w (k : Nat) (h : k < 32) : IntKind.u32.wrap (1 * 2 ^ k) = ((unit k).toNat : Int) := by
  have h2 : 2 ^ k < 4294967296 := Nat.pow_lt_pow_right (by omega) (show k < 32 from h)
  have h3 : ((2 : Int) ^ k) = ((2 ^ k : Nat) : Int) := by simp
  rw [Int.one_mul, h3, IntKind.wrap_u32', unit, BitVec.toNat_shiftLeft]
  simp [Nat.shiftLeft_eq]
theorem unit_z (k : Nat) (h : k < 32) : (2 : Int) ^ k % 4294967296 = ((unit k).toNat : Int) := by
  rw [← unit_w k h, Int.one_mul, IntKind.wrap_u32']
theorem max_w (a : W32) : bits .xor .u32 IntKind.u32.max (a.toNat : Int) = ((~~~a).toNat : Int) := by
  have e : (IntKind.u32.max : Int) = ((BitVec.allOnes 32).toNat : Int) := by decide +kernel
  rw [e, xor_w, BitVec.xor_comm, BitVec.xor_allOnes]
theorem not_w (a : W32) : ((4294967295 : Int) - (a.toNat : Int)) = ((~~~a).toNat : Int) := by
  have := toNat_lt32 a
  rw [BitVec.toNat_not]
  omega

/-! The document's loop: a byte's bits, one by one. -/
/-- What the first k bits of X make of the register. -/
def rb (X : W32) : Nat → W32 → W32
  | 0, c => c
  | k + 1, c => (rb X k c >>> 1) ^^^ (if X.getLsbD k != (rb X k c).getLsbD 0 then poly else 0)
theorem shr_shr (X : W32) (k : Nat) : (X >>> k) >>> 1 = X >>> (k + 1) := by rw [← BitVec.shiftRight_add]
theorem rb_st (X c : W32) : ∀ k, rb X k c ^^^ (X >>> k) = rep st k (c ^^^ X)
  | 0 => by simp [rb, rep]
  | k + 1 => by
    rw [rep_succ', ← rb_st X c k, st, BitVec.ushiftRight_xor_distrib, shr_shr, rb, BitVec.getLsbD_xor, BitVec.getLsbD_ushiftRight, Nat.add_zero, BitVec.xor_assoc, BitVec.xor_assoc, BitVec.xor_comm (X >>> (k + 1))]
    congr 2
    cases (rb X k c).getLsbD 0 <;> cases X.getLsbD k <;> rfl
theorem rb_byte (u : UInt8) (c : W32) : rb (bw u) 8 c = b8 (c ^^^ bw u) := by
  have := rb_st (bw u) c 8
  rwa [bw_shift, x0] at this
theorem rb_one {X : W32} {k : Nat} {y z : W32} (hz : z = rb X k y) {b : Bool} (hb : (X.getLsbD k != z.getLsbD 0) = b) : rb X (k + 1) y = (z >>> 1) ^^^ (if b then poly else 0) := by
  rw [rb, ← hz, hb]
theorem low_bit (z : W32) : (z.toNat : Int) % 2 = if z.getLsbD 0 then 1 else 0 := by
  rw [BitVec.getLsbD, Nat.testBit_zero]
  by_cases h : z.toNat % 2 = 1
  · simp [h]
    omega
  · simp [h]
    omega
theorem a_bit (u : UInt8) (k P : Nat) (hP : P = 2 ^ k) : ((u.toNat : Int) % 4294967296 / (P : Int)).tmod 2 = if (bw u).getLsbD k then 1 else 0 := by
  have hu := u.toNat_lt
  have e : ((u.toNat : Int) % 4294967296 / (P : Int)) = ((u.toNat / P : Nat) : Int) := by
    rw [show ((u.toNat : Int) % 4294967296) = (u.toNat : Int) from by omega]
    exact (Int.natCast_ediv ..).symm
  rw [e, Int.tmod_eq_emod_of_nonneg (Int.natCast_nonneg _), BitVec.getLsbD, bw_toNat, Nat.testBit_eq_decide_div_mod_eq, ← hP]
  by_cases h : u.toNat / P % 2 = 1
  · simp [h]
    omega
  · simp [h]
    omega
theorem bit_test (u : UInt8) (z : W32) (k P : Nat) (hP : P = 2 ^ k) : (((u.toNat : Int) % 4294967296 / (P : Int)).tmod 2 != (z.toNat : Int) % 2) = ((bw u).getLsbD k != z.getLsbD 0) := by
  rw [a_bit u k P hP, low_bit]
  cases (bw u).getLsbD k <;> cases z.getLsbD 0 <;> rfl
theorem half_w (z : W32) : (z.toNat : Int) / (2 : Int) = ((z >>> 1).toNat : Int) := by
  rw [← shr_w z 1, Int.pow_one]
theorem poly_w (z : W32) : bits .xor .u32 ((z.toNat : Int) / 2) 2197175160 = (((z >>> 1) ^^^ poly).toNat : Int) := by
  have e := half_w z
  rw [e, show (2197175160 : Int) = (poly.toNat : Int) from by decide +kernel, xor_w]
end Go.Proofs.YtpmjpagmddjjaaaDoor
