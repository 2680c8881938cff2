/-
  Plain mathematics of a check sum of 32 bits: the register's step ('st'), a byte's ('b8'), a text's ('reg'), what goes over sums of bits ('Lin'), many noughts at once, bursts. No program, no condition.
  Plain mathematics of the check sum, going on: the table of a nought byte, what the program's loops make (words of the walk's own spelling), the document's loop bit by bit, bits turned within 32. No program, no condition.
  Contracts of package crc's noughtByte and through. Condition: the table reads as the row lists it ('Nt').
  Arrays of 32 words as values; contracts of package crc's together, ofBits, and of the functions that are handed in. Condition: the table reads as the row lists it ('Nt').
  Contracts of package crc's ofBits, at both functions that are handed in to it. Condition: the table reads as the row lists it ('Nt').
  Contracts of package crc's times and behindNoughts: many noughts at once. Condition: the table reads as the row lists it ('Nt').
  Contracts of package crc's Sum, More, Zeros, Join, Turned. Condition: the table reads as the row lists it ('Nt').
  The statements' own 'summed' (the page's examples) answers true; contracts of the document's answers: register, turned, noughts, More, Sum, Zeros, Join, Turned. Condition: the table reads as the row lists it ('Nt').
  Contracts of the document's answers of layer 2: register, turned, noughts, More, Sum, Zeros, Join, Turned. No condition but that slices read as bytes.
  Plain mathematics of changed texts: a mask laid over a part ('chg'); the register bit by bit over a text's bits ('regb'), bits turned within 32 side by side ('Flip'). No program, no condition.
  Plain mathematics of a word's four bytes laid over four of a text's: its bits are turned. No program, no condition.
-/
import Derived.Laws.BitsAllLaws
import Derived.Laws.Shifts
import Derived.Test.YtpijfghklgmefaaDoorProg
import Derived.Test.YtpijfghklgmefaaDoorGa
import Derived.Deep.QuietTactic
import Derived.BigQuiet
import Derived.Lib.LaidTab
import Derived.Deep.WholeRow
import Derived.Deep.RegionHeld3
import Derived.Lib.SlBytesConst
import Derived.Test.YtpijfghklgmefaaDoorKa
namespace Go.Proofs.YtpijfghklgmefaaDoor

abbrev W32 := BitVec 32

/-- What goes over exclusive or. -/
def Lin (f : W32 → W32) : Prop := ∀ a b, f (a ^^^ b) = f a ^^^ f b
theorem Lin.comp {f g : W32 → W32} (hf : Lin f) (hg : Lin g) : Lin fun x => f (g x) := fun a b => by show f (g (a ^^^ b)) = f (g a) ^^^ f (g b); rw [hg, hf]
theorem Lin.zero {f : W32 → W32} (hf : Lin f) : f 0 = 0 := by
  have h := hf 0 0
  rw [BitVec.xor_self, BitVec.xor_self] at h
  exact h

theorem x0 (a : W32) : a ^^^ 0 = a := BitVec.xor_zero
theorem zx (a : W32) : 0 ^^^ a = a := BitVec.zero_xor

theorem xor4 (a b c d : W32) : (a ^^^ b) ^^^ (c ^^^ d) = (a ^^^ c) ^^^ (b ^^^ d) := by
  rw [BitVec.xor_assoc, BitVec.xor_assoc, ← BitVec.xor_assoc b c d, BitVec.xor_comm b c, BitVec.xor_assoc c b d]
theorem xor_cancel_right {a b c : W32} (h : a ^^^ c = b ^^^ c) : a = b := by
  have := congrArg (· ^^^ c) h
  simpa [BitVec.xor_assoc] using this

/-- The sum of m's words at the bits of w, the first k of them. -/
def tog (m : Nat → W32) : Nat → W32 → W32
  | 0, _ => 0
  | k + 1, w => tog m k w ^^^ (if w.getLsbD k then m k else 0)

theorem tog_congr {m m' : Nat → W32} (w : W32) : ∀ k, (∀ i, i < k → m i = m' i) → tog m k w = tog m' k w
  | 0, _ => rfl
  | k + 1, h => by rw [tog, tog, tog_congr w k (fun i hi => h i (by omega)), h k (by omega)]
theorem tog_map {f : W32 → W32} (hf : Lin f) (m : Nat → W32) (w : W32) : ∀ k, f (tog m k w) = tog (fun i => f (m i)) k w
  | 0 => hf.zero
  | k + 1 => by
    rw [tog, tog, hf, tog_map hf m w k]
    congr 1
    split
    · rfl
    · exact hf.zero
theorem tog_lin (m : Nat → W32) : ∀ k, Lin (tog m k)
  | 0 => fun a b => by simp [tog]
  | k + 1 => fun a b => by
    rw [tog, tog, tog, tog_lin m k a b, xor4, BitVec.getLsbD_xor]
    congr 1
    cases a.getLsbD k <;> cases b.getLsbD k <;> simp

def unit (i : Nat) : W32 := (1 : W32) <<< i
theorem unit_bit (i j : Nat) : (unit i).getLsbD j = (decide (j < 32) && decide (j = i)) := by
  unfold unit
  rw [BitVec.getLsbD_shiftLeft]
  simp only [BitVec.ofNat_eq_ofNat, BitVec.getLsbD_one]
  by_cases h : j < 32 <;> by_cases h2 : j < i <;> by_cases h3 : j = i <;> simp_all <;> omega
theorem tog_unit_bit (w : W32) (j : Nat) : ∀ k, k ≤ 32 → (tog unit k w).getLsbD j = (decide (j < k) && w.getLsbD j)
  | 0, _ => by simp [tog]
  | k + 1, hk => by
    rw [tog, BitVec.getLsbD_xor, tog_unit_bit w j k (by omega)]
    by_cases hw : w.getLsbD k
    · rw [if_pos hw, unit_bit]
      by_cases h1 : j = k
      · subst h1
        simp [hw]
        omega
      · have : decide (j < k + 1) = decide (j < k) := by simp; omega
        simp [h1, this]
    · rw [if_neg hw]
      by_cases h1 : j = k
      · subst h1
        simp [hw]
      · have : decide (j < k + 1) = decide (j < k) := by simp; omega
        simp [this]
theorem tog_unit (w : W32) : tog unit 32 w = w := by
  apply BitVec.eq_of_getLsbD_eq
  intro i hi
  rw [tog_unit_bit w i 32 (Nat.le_refl _)]
  simp [hi]

/-- What goes over sums of bits is told by what it makes of each bit. -/
theorem lin_tog {f : W32 → W32} (hf : Lin f) (w : W32) : tog (fun i => f (unit i)) 32 w = f w := by
  rw [← tog_map hf, tog_unit]
theorem lin_ext {f g : W32 → W32} (hf : Lin f) (hg : Lin g) (h : ∀ i, i < 32 → f (unit i) = g (unit i)) (w : W32) : f w = g w := by
  rw [← lin_tog hf, ← lin_tog hg]
  exact tog_congr w 32 h

/-- f done k times. -/
def rep (f : W32 → W32) : Nat → W32 → W32
  | 0, w => w
  | k + 1, w => rep f k (f w)
theorem rep_add (f : W32 → W32) : ∀ a b w, rep f (a + b) w = rep f b (rep f a w)
  | 0, b, w => by rw [Nat.zero_add]; rfl
  | a + 1, b, w => by rw [show a + 1 + b = (a + b) + 1 from by omega, rep, rep, rep_add f a b]
theorem rep_lin {f : W32 → W32} (hf : Lin f) : ∀ k, Lin (rep f k)
  | 0 => fun _ _ => rfl
  | k + 1 => fun a b => by rw [rep, rep, rep, hf, rep_lin hf k]
theorem rep_rep (f : W32 → W32) (j : Nat) : ∀ k w, rep (rep f j) k w = rep f (j * k) w
  | 0, w => rfl
  | k + 1, w => by rw [rep, rep_rep f j k, Nat.mul_succ, Nat.add_comm, rep_add]
theorem rep_succ' (f : W32 → W32) (k : Nat) (w : W32) : rep f (k + 1) w = f (rep f k w) := by rw [rep_add f k 1]; rfl

def poly : W32 := 0x82f63b78#32
/-- What one bit makes of the register. -/
def st (c : W32) : W32 := (c >>> 1) ^^^ (if c.getLsbD 0 then poly else 0)
theorem st_lin : Lin st := fun a b => by
  unfold st
  rw [BitVec.ushiftRight_xor_distrib, xor4, BitVec.getLsbD_xor]
  congr 1
  cases a.getLsbD 0 <;> cases b.getLsbD 0 <;> simp
theorem st_inj {c : W32} (h : st c = 0) : c = 0 := by
  unfold st at h
  by_cases hb : c.getLsbD 0
  · rw [if_pos hb] at h
    have := congrArg (·.getLsbD 31) h
    simp [poly] at this
  · rw [if_neg hb] at h
    apply BitVec.eq_of_getLsbD_eq
    intro i hi
    rcases i with _ | i
    · simpa using hb
    · have := congrArg (·.getLsbD i) h
      simpa [Nat.add_comm] using this
theorem rep_st_inj : ∀ k (c : W32), rep st k c = 0 → c = 0
  | 0, _, h => h
  | k + 1, _, h => st_inj (rep_st_inj k _ h)

/-- What a nought byte makes of the register. -/
def b8 (c : W32) : W32 := rep st 8 c
theorem b8_lin : Lin b8 := rep_lin st_lin 8

/-- A byte as a word. -/
def bw (u : UInt8) : W32 := BitVec.ofNat 32 u.toNat
theorem bw_toNat (u : UInt8) : (bw u).toNat = u.toNat := by
  simp [bw]
theorem bw_bit (u : UInt8) (j : Nat) (h : 8 ≤ j) : (bw u).getLsbD j = false := by
  rw [BitVec.getLsbD, bw_toNat, Nat.testBit_lt_two_pow]
  exact Nat.lt_of_lt_of_le u.toNat_lt (Nat.pow_le_pow_right (by omega) h)
theorem bw_shift (u : UInt8) : bw u >>> 8 = 0 := by
  apply BitVec.eq_of_getLsbD_eq
  intro i hi
  rw [BitVec.getLsbD_ushiftRight, bw_bit u _ (by omega)]
  exact BitVec.getLsbD_zero.symm
theorem bw_xor (u v : UInt8) : bw (u ^^^ v) = bw u ^^^ bw v := by
  apply BitVec.eq_of_toNat_eq
  rw [BitVec.toNat_xor, bw_toNat, bw_toNat, bw_toNat, UInt8.toNat_xor]

/-- What a text makes of the register. -/
def reg (c : W32) (l : List UInt8) : W32 := l.foldl (fun r x => b8 (r ^^^ bw x)) c
theorem reg_cons (c : W32) (u : UInt8) (l : List UInt8) : reg c (u :: l) = reg (b8 (c ^^^ bw u)) l := rfl
theorem reg_append (c : W32) (l k : List UInt8) : reg c (l ++ k) = reg (reg c l) k := List.foldl_append
theorem reg_snoc (c : W32) (l : List UInt8) (u : UInt8) : reg c (l ++ [u]) = b8 (reg c l ^^^ bw u) := by rw [reg_append]; rfl
theorem reg_noughts (c : W32) : ∀ n, reg c (List.replicate n 0) = rep b8 n c
  | 0 => rfl
  | n + 1 => by
    rw [List.replicate_succ, reg_cons, reg_noughts _ n, rep]
    congr 2
    simp [bw]
/-- Two texts of one length, taken together by exclusive or. -/
def lx (l k : List UInt8) : List UInt8 := List.zipWith (· ^^^ ·) l k
theorem reg_lx : ∀ (l k : List UInt8) (c d : W32), l.length = k.length → reg (c ^^^ d) (lx l k) = reg c l ^^^ reg d k
  | [], [], c, d, _ => rfl
  | u :: l, v :: k, c, d, h => by
    rw [show lx (u :: l) (v :: k) = (u ^^^ v) :: lx l k from rfl, reg_cons, reg_cons, reg_cons, bw_xor, xor4, b8_lin]
    exact reg_lx l k _ _ (by simpa using h)
theorem reg_split (c : W32) (l : List UInt8) : reg c l = rep b8 l.length c ^^^ reg 0 l := by
  have h := reg_lx (List.replicate l.length 0) l c 0 (by simp)
  rw [reg_noughts, x0] at h
  rw [← h]
  congr 1
  unfold lx
  apply List.ext_getElem
  · simp
  · intro i h1 h2
    simp
theorem rep_xor_reg (c d : W32) (l : List UInt8) : reg (c ^^^ d) l = rep b8 l.length c ^^^ reg d l := by
  rw [reg_split, rep_lin b8_lin, reg_split d, BitVec.xor_assoc]

/-- The sum of a text, going on from a sum. -/
def more (s : W32) (l : List UInt8) : W32 := ~~~reg (~~~s) l
def zeros (s : W32) (n : Nat) : W32 := ~~~rep b8 n (~~~s)
def joinW (a b : W32) (n : Nat) : W32 := rep b8 n a ^^^ b
def turnedW (s : W32) (mask : List UInt8) (n : Nat) : W32 := s ^^^ rep b8 n (reg 0 mask)

theorem not_eq (a : W32) : ~~~a = a ^^^ BitVec.allOnes 32 := by rw [BitVec.xor_allOnes]
theorem not_xor (a b : W32) : ~~~(a ^^^ b) = a ^^^ ~~~b := by rw [not_eq, not_eq, BitVec.xor_assoc]

theorem join_more (a b : List UInt8) : joinW (more 0 a) (more 0 b) b.length = more 0 (a ++ b) := by
  unfold joinW more
  rw [reg_append, reg_split (reg (~~~0) a) b, reg_split (~~~0) b, not_eq (reg _ a), rep_lin b8_lin, not_eq (0 : W32), zx, not_eq, not_eq, BitVec.xor_assoc, ← BitVec.xor_assoc (rep b8 b.length (BitVec.allOnes 32)), ← BitVec.xor_assoc (rep b8 b.length (BitVec.allOnes 32)), BitVec.xor_self, BitVec.zero_xor, BitVec.xor_assoc]
theorem more_more (a b : List UInt8) : more (more 0 a) b = more 0 (a ++ b) := by
  unfold more
  rw [BitVec.not_not, reg_append]
theorem join_none (a : W32) : joinW a 0 0 = a := by simp [joinW, rep]
theorem zeros_zeros (s : W32) (a b : Nat) : zeros (zeros s a) b = zeros s (a + b) := by
  unfold zeros
  rw [BitVec.not_not, rep_add]
theorem join_join (s : W32) (a b : Nat) : joinW (joinW s 0 a) 0 b = joinW s 0 (a + b) := by
  unfold joinW
  rw [x0, x0, x0, rep_add]

/-- A text in which a mask stands, by exclusive or, behind k bytes and ahead of the rest. -/
theorem turned_more (p m l q : List UInt8) (h : m.length = l.length) : more 0 (p ++ (lx l m ++ q)) = turnedW (more 0 (p ++ (l ++ q))) m q.length := by
  unfold more turnedW
  rw [reg_append, reg_append, reg_append, reg_append]
  generalize reg (~~~0) p = c
  have e : reg c (lx l m) = reg c l ^^^ reg 0 m := by
    have := reg_lx l m c 0 h.symm
    rwa [x0] at this
  rw [e, BitVec.xor_comm (reg c l), rep_xor_reg, BitVec.xor_comm, not_eq, not_eq, BitVec.xor_assoc, BitVec.xor_assoc, BitVec.xor_comm (BitVec.allOnes 32)]
end Go.Proofs.YtpijfghklgmefaaDoor

namespace Go.Proofs.YtpijfghklgmefaaDoor

/-- What a nought byte makes of each bit. -/
def nt : List Int := [4067132163, 3778769143, 3348797215, 2329499855, 274646895, 549293790, 1098587580, 2197175160, 1, 2, 4, 8, 16, 32, 64, 128, 256, 512, 1024, 2048, 4096, 8192, 16384, 32768, 65536, 131072, 262144, 524288, 1048576, 2097152, 4194304, 8388608]
def ntw (i : Nat) : W32 := BitVec.ofNat 32 (nt.getD i 0).toNat

theorem ntw_unit : ∀ i, i < 32 → ntw i = b8 (unit i) := by decide +kernel
theorem nt_ntw : ∀ i, i < 32 → nt.getD i 0 = ((ntw i).toNat : Int) := by decide +kernel

/-- A nought byte, the upper bits moved all at once. -/
theorem b8_table (c : W32) : (c >>> 8) ^^^ tog ntw 8 c = b8 c := by
  refine lin_ext (f := fun c => (c >>> 8) ^^^ tog ntw 8 c) (fun a b => ?_) b8_lin (by decide +kernel) c
  show ((a ^^^ b) >>> 8) ^^^ tog ntw 8 (a ^^^ b) = _
  rw [tog_lin ntw 8 a b, BitVec.ushiftRight_xor_distrib, xor4]
theorem b8_whole (c : W32) : tog ntw 32 c = b8 c := by
  rw [← lin_tog b8_lin]
  exact tog_congr c 32 ntw_unit

/-! The walk's words. -/
theorem toNat_lt32 (a : W32) : a.toNat < 4294967296 := a.isLt
theorem xor_w (a b : W32) : bits .xor .u32 (a.toNat : Int) (b.toNat : Int) = ((a ^^^ b).toNat : Int) := by
  rw [u32_xor_nat _ _ (toNat_lt32 a) (toNat_lt32 b), BitVec.toNat_xor]
theorem shr_w (a : W32) (k : Nat) : (a.toNat : Int) / 2 ^ k = ((a >>> k).toNat : Int) := by
  rw [BitVec.toNat_ushiftRight, Nat.shiftRight_eq_div_pow]
  simp
theorem bit_nat (a : W32) (k : Nat) : (a.toNat >>> k) &&& 1 = (if a.getLsbD k then 1 else 0) := by
  rw [BitVec.getLsbD, Nat.testBit, Nat.and_comm]
  have := Nat.and_one_is_mod (a.toNat >>> k)
  rw [Nat.and_comm] at this
  rcases Nat.mod_two_eq_zero_or_one (a.toNat >>> k) with h | h <;> simp_all
theorem pick_w (m a : W32) (k : Nat) : bits .and .u32 (m.toNat : Int) (IntKind.u32.wrap (-(bits .and .u32 ((a >>> k).toNat : Int) 1))) = ((if a.getLsbD k then m else 0 : W32).toNat : Int) := by
  have h1 : bits .and .u32 ((a >>> k).toNat : Int) 1 = ((if a.getLsbD k then 1 else 0 : Nat) : Int) := by
    have := u32_and_nat (a >>> k).toNat 1 (toNat_lt32 _) (by omega)
    rw [show ((1 : Nat) : Int) = 1 from rfl] at this
    rw [this, BitVec.toNat_ushiftRight, bit_nat]
  rw [h1]
  cases a.getLsbD k
  · have := u32_and_nat m.toNat 0 (toNat_lt32 _) (by omega)
    simpa [IntKind.wrap_u32'] using this
  · have := u32_and_nat m.toNat 4294967295 (toNat_lt32 _) (by omega)
    have e : m.toNat &&& 4294967295 = m.toNat := by
      rw [show (4294967295 : Nat) = 2 ^ 32 - 1 from rfl, Nat.and_two_pow_sub_one_eq_mod, Nat.mod_eq_of_lt m.isLt]
    rw [e] at this
    simpa [IntKind.wrap_u32'] using this
theorem fold_w (y m a : W32) (k : Nat) : bits .xor .u32 (y.toNat : Int) (bits .and .u32 (m.toNat : Int) (-bits .and .u32 ((a.toNat : Int) / 2 ^ k) 1 % 4294967296)) = ((y ^^^ (if a.getLsbD k then m else 0)).toNat : Int) := by
  rw [shr_w, ← IntKind.wrap_u32', pick_w, xor_w]
theorem byte_w (y : W32) (u : UInt8) : bits .xor .u32 (y.toNat : Int) ((u.toNat : Int) % 4294967296) = ((y ^^^ bw u).toNat : Int) := by
  have e : ((u.toNat : Int) % 4294967296) = ((bw u).toNat : Int) := by
    have := u.toNat_lt
    rw [bw_toNat]
    omega
  rw [e, xor_w]
theorem unit_w (k : Nat) (h : k < 32) : IntKind.u32.wrap (1 * 2 ^ k) = ((unit k).toNat : Int) := by
  have h2 : 2 ^ k < 4294967296 := Nat.pow_lt_pow_right (by omega) (show k < 32 from h)
  have h3 : ((2 : Int) ^ k) = ((2 ^ k : Nat) : Int) := by simp
  rw [Int.one_mul, h3, IntKind.wrap_u32', unit, BitVec.toNat_shiftLeft]
  simp [Nat.shiftLeft_eq]
theorem unit_z (k : Nat) (h : k < 32) : (2 : Int) ^ k % 4294967296 = ((unit k).toNat : Int) := by
  rw [← unit_w k h, Int.one_mul, IntKind.wrap_u32']
theorem max_w (a : W32) : bits .xor .u32 IntKind.u32.max (a.toNat : Int) = ((~~~a).toNat : Int) := by
  have e : (IntKind.u32.max : Int) = ((BitVec.allOnes 32).toNat : Int) := by decide +kernel
  rw [e, xor_w, BitVec.xor_comm, BitVec.xor_allOnes]
theorem not_w (a : W32) : ((4294967295 : Int) - (a.toNat : Int)) = ((~~~a).toNat : Int) := by
  have := toNat_lt32 a
  rw [BitVec.toNat_not]
  omega

/-! The document's loop: a byte's bits, one by one. -/
/-- What the first k bits of X make of the register. -/
def rb (X : W32) : Nat → W32 → W32
  | 0, c => c
  | k + 1, c => (rb X k c >>> 1) ^^^ (if X.getLsbD k != (rb X k c).getLsbD 0 then poly else 0)
theorem shr_shr (X : W32) (k : Nat) : (X >>> k) >>> 1 = X >>> (k + 1) := by rw [← BitVec.shiftRight_add]
theorem rb_st (X c : W32) : ∀ k, rb X k c ^^^ (X >>> k) = rep st k (c ^^^ X)
  | 0 => by simp [rb, rep]
  | k + 1 => by
    rw [rep_succ', ← rb_st X c k, st, BitVec.ushiftRight_xor_distrib, shr_shr, rb, BitVec.getLsbD_xor, BitVec.getLsbD_ushiftRight, Nat.add_zero, BitVec.xor_assoc, BitVec.xor_assoc, BitVec.xor_comm (X >>> (k + 1))]
    congr 2
    cases (rb X k c).getLsbD 0 <;> cases X.getLsbD k <;> rfl
theorem rb_byte (u : UInt8) (c : W32) : rb (bw u) 8 c = b8 (c ^^^ bw u) := by
  have := rb_st (bw u) c 8
  rwa [bw_shift, x0] at this
theorem rb_one {X : W32} {k : Nat} {y z : W32} (hz : z = rb X k y) {b : Bool} (hb : (X.getLsbD k != z.getLsbD 0) = b) : rb X (k + 1) y = (z >>> 1) ^^^ (if b then poly else 0) := by
  rw [rb, ← hz, hb]
theorem low_bit (z : W32) : (z.toNat : Int) % 2 = if z.getLsbD 0 then 1 else 0 := by
  rw [BitVec.getLsbD, Nat.testBit_zero]
  by_cases h : z.toNat % 2 = 1
  · simp [h]
    omega
  · simp [h]
    omega
theorem a_bit (u : UInt8) (k P : Nat) (hP : P = 2 ^ k) : ((u.toNat : Int) % 4294967296 / (P : Int)).tmod 2 = if (bw u).getLsbD k then 1 else 0 := by
  have hu := u.toNat_lt
  have e : ((u.toNat : Int) % 4294967296 / (P : Int)) = ((u.toNat / P : Nat) : Int) := by
    rw [show ((u.toNat : Int) % 4294967296) = (u.toNat : Int) from by omega]
    exact (Int.natCast_ediv ..).symm
  rw [e, Int.tmod_eq_emod_of_nonneg (Int.natCast_nonneg _), BitVec.getLsbD, bw_toNat, Nat.testBit_eq_decide_div_mod_eq, ← hP]
  by_cases h : u.toNat / P % 2 = 1
  · simp [h]
    omega
  · simp [h]
    omega
theorem crc_bit_test (u : UInt8) (z : W32) (k P : Nat) (hP : P = 2 ^ k) : (((u.toNat : Int) % 4294967296 / (P : Int)).tmod 2 != (z.toNat : Int) % 2) = ((bw u).getLsbD k != z.getLsbD 0) := by
  rw [a_bit u k P hP, low_bit]
  cases (bw u).getLsbD k <;> cases z.getLsbD 0 <;> rfl
theorem half_w (z : W32) : (z.toNat : Int) / (2 : Int) = ((z >>> 1).toNat : Int) := by
  rw [← shr_w z 1, Int.pow_one]
theorem poly_w (z : W32) : bits .xor .u32 ((z.toNat : Int) / 2) 2197175160 = (((z >>> 1) ^^^ poly).toNat : Int) := by
  have e := half_w z
  rw [e, show (2197175160 : Int) = (poly.toNat : Int) from by decide +kernel, xor_w]
end Go.Proofs.YtpijfghklgmefaaDoor

namespace Go.Proofs.YtpijfghklgmefaaDoor
open Go.RowKit
set_option linter.unusedVariables false

/-- A word as a value. -/
def uv (c : W32) : Value := .int .u32 (c.toNat : Int)

theorem gNought : Tryd.prog.globalNamed "ciborium/crc.nought" = some 0 := by kernel_rfl

theorem ret_w {a b : W32} (h : a = b) : Ending.returned (.int .u32 (a.toNat : Int)) = .returned (.int .u32 (b.toNat : Int)) := by rw [h]
theorem val_w {a b : W32} (h : a = b) : Value.int .u32 (a.toNat : Int) = .int .u32 (b.toNat : Int) := by rw [h]

theorem below_drewN {B : Nat} {a w : World} (h : Below B a w) (n : Nat) : Below B a (w.drewN n) := ⟨h.os, h.tape, h.output, h.size, h.block⟩

/-- The table's block. -/
def Nt (w : World) : Prop := w.var? Tryd.prog "ciborium/crc.nought" = some (nt.map fun z => Value.int .u32 z).toArray
theorem Nt.cell {w : World} (h : Nt w) (i : Nat) (hi : i < 32) : w.cell? ⟨0, i, none⟩ = some (.int .u32 ((ntw i).toNat : Int)) := by
  have := Lib.TabIs.cell (k := .u32) h gNought i hi
  rwa [nt_ntw i hi] at this
theorem Nt.block {w : World} (h : Nt w) : ∃ t fr, w.heap[0]? = some (.cells (nt.map fun z => Value.int .u32 z).toArray t fr) := by
  unfold Nt World.var? at h
  rw [gNought] at h
  simp only [Option.bind_some] at h
  split at h
  · rename_i cs t fr hc
    injection h with h
    subst h
    exact ⟨t, fr, hc⟩
  · cases h
theorem Nt.keep {w w' : World} (h : Nt w) (hb : Below w.heap.size w w') : Nt w' := by
  unfold Nt World.var? at *
  rw [gNought] at *
  simp only [Option.bind_some] at *
  have h0 : 0 < w.heap.size := by
    rcases Nat.lt_or_ge 0 w.heap.size with h' | h'
    · exact h'
    · rw [Array.getElem?_eq_none h'] at h
      cases h
  rw [hb.block _ h0]
  exact h

set_option maxHeartbeats 400000 in
set_option maxRecDepth 20000 in
theorem noughtByte_any (c : W32) (w : World) (h : Nt w) :
    Calls Tryd.prog 76 #[.int .u32 (c.toNat : Int)] w fun e w' => e = .returned (.int .u32 ((b8 c).toNat : Int)) ∧ Below w.heap.size w w' := by
  have H := Lib.hid h; clear h
  go_enter Tryd.func76, Tryd.ntmps76
  go_wp2_with fail
  go_loopw [3, 7] (fun v i wr => ∃ (k : Nat) (y : W32), y = ((c >>> 8) ^^^ tog ntw k c) ∧ k ≤ 8 ∧ i = .int .i64 (k : Int) ∧ v = .int .u32 (y.toNat : Int) ∧ Below w.heap.size w wr) (fun _ i _ => 8 - (intOf i).toNat)
  case atStart => exact ⟨0, _, rfl, by omega, rfl, by rw [tog, x0, ← shr_w]; go_num, Below.refl _ _⟩
  case round =>
    obtain ⟨k, y, hy, hk, rfl, rfl, hb⟩ := hrel
    have Hy := Lib.hid hy; clear hy
    by_cases hlt : k < 8
    · have hcell := (H.out.keep hb).cell k (by omega)
      go_wp2_with fail
      go_quiet (fail)
      go_wp2_with fail
      go_roundw
      case rel => exact ⟨k + 1, y ^^^ (if c.getLsbD k then ntw k else 0), by rw [Hy.out, tog, BitVec.xor_assoc], by omega, by go_num, by rw [fold_w], below_drewN hb _⟩
      case measure => simp [intOf]; omega
    · go_wp2_with fail
      go_ret
      obtain rfl : k = 8 := by omega
      exact ⟨ret_w (by rw [Hy.out, b8_table]), hb⟩

theorem noughtByte_at (z : Int) (c : W32) (hz : z = (c.toNat : Int)) (w : World) (h : Nt w) :
    Calls Tryd.prog 76 #[.int .u32 z] w fun e w' => e = .returned (.int .u32 ((b8 c).toNat : Int)) ∧ Below w.heap.size w w' := by
  subst hz
  exact noughtByte_any c w h

set_option maxHeartbeats 400000 in
set_option maxRecDepth 20000 in
theorem through_any (A : Option Addr) (n cp : Nat) (l : List UInt8) (c : W32) (w : World) (hs : Sl w 1 A n cp (cells l)) (h : Nt w) :
    Calls Tryd.prog 69 #[.int .u32 (c.toNat : Int), .slice A n cp] w fun e w' => e = .returned (.int .u32 ((reg c l).toNat : Int)) ∧ Below w.heap.size w w' := by
  have hn := hs.lim
  unfold maxLen at hn
  have hl := hs.len
  rw [cells_length, Nat.mul_one] at hl
  have H := Lib.hid h; clear h
  have Hs := Lib.hid hs; clear hs
  have Hl := Lib.hid hl; clear hl
  go_enter Tryd.func69, Tryd.ntmps69
  go_wp2_with fail
  go_loopw [0, 6, 9] (fun v u i wr => ∃ (k : Nat) (y : W32), y = reg c (l.take k) ∧ k ≤ n ∧ i = .int .i64 (k : Int) ∧ v = .int .u32 (y.toNat : Int) ∧ Below w.heap.size w wr) (fun _ _ i _ => n - (intOf i).toNat)
  case atStart => exact ⟨0, c, rfl, by omega, rfl, rfl, Below.refl _ _⟩
  case round =>
    obtain ⟨k, y, hy, hk, rfl, rfl, hb⟩ := hrel
    have Hy := Lib.hid hy; clear hy
    by_cases hlt : k < n
    · obtain ⟨b, o, rfl, hc⟩ := (Hs.out.below hb (Nat.le_refl _)).at_ hlt
      have hkl : k < l.length := by rw [Hl.out]; exact hlt
      have hcell := hc k _ (cells_get l k hkl)
      have Hc := Lib.hid hc; clear hc
      obtain ⟨u, hu⟩ : ∃ u, u = l[k] := ⟨_, rfl⟩
      rw [bv, ← hu] at hcell
      have Hu := Lib.hid hu; clear hu
      go_wp2_with fail
      refine (noughtByte_at _ (y ^^^ bw u) (byte_w y u) _ (H.out.keep hb)).mono ?_; rintro e w1 ⟨rfl, hb1⟩
      have hbb := hb.trans (hb1.mono hb.size)
      go_wp2_with fail
      go_roundw
      case rel => exact ⟨k + 1, _, by rw [← List.take_append_getElem hkl, reg_snoc, ← Hy.out, ← Hu.out], by omega, by go_num, rfl, hbb⟩
      case measure => simp [intOf]; omega
    · go_wp2_with fail
      go_ret
      exact ⟨ret_w (by rw [Hy.out, List.take_of_length_le (by rw [Hl.out]; omega)]), hb⟩
end Go.Proofs.YtpijfghklgmefaaDoor

namespace Go.Proofs.YtpijfghklgmefaaDoor
open Go.RowKit
set_option linter.unusedVariables false

/-- 32 words as the cells of an array. -/
def arr (m : Nat → W32) : Array Value := ((List.range 32).map fun i => Value.int .u32 ((m i).toNat : Int)).toArray
theorem arr_size (m : Nat → W32) : (arr m).size = 32 := by simp [arr]
theorem arr_get (m : Nat → W32) (i : Nat) (h : i < 32) : (arr m)[i]? = some (.int .u32 ((m i).toNat : Int)) := by simp [arr, h]
theorem arr_one (m : Nat → W32) : (arr m).all (·.oneCell') = true := by
  rw [Array.all_eq_true_iff_forall_mem]
  intro v hv
  simp only [arr, List.mem_toArray, List.mem_map] at hv
  obtain ⟨_, _, rfl⟩ := hv
  rfl
theorem arr_congr {m m' : Nat → W32} (h : ∀ i, i < 32 → m i = m' i) : arr m = arr m' := by
  unfold arr
  congr 1
  apply List.map_congr_left
  intro i hi
  rw [h i (by simpa using hi)]
theorem arr_set (m : Nat → W32) (k : Nat) (x : W32) (h : k < 32) : (arr m).setIfInBounds k (.int .u32 (x.toNat : Int)) = arr fun i => if i = k then x else m i := by
  apply Array.ext
  · simp [arr]
  · intro i h1 h2
    rw [arr_size] at h2
    by_cases hk : k = i
    · subst hk
      simp [arr]
    · have hk' : ¬ i = k := fun e => hk e.symm
      simp [arr, hk, hk']
theorem size_arr (m : Nat → W32) : (Tryd.prog.info? 115).map (·.size) = some (arr m).size := by
  rw [arr_size]
  kernel_rfl
theorem arr_nt : (nt.map fun z => Value.int .u32 z).toArray = arr ntw := by
  unfold arr
  congr 1
theorem Nt.row {w : World} (h : Nt w) : ∃ t fr, w.heap[0]? = some (.cells (arr ntw) t fr) := by
  rw [← arr_nt]
  exact h.block
theorem run_index_arr (m : Nat → W32) (k : Nat) (h : k < 32) (w : World) : (Instr.index 115 (.agg (arr m)) (.int .i64 (k : Int))).run Tryd.prog w = .ok (.int .u32 ((m k).toNat : Int)) w := by
  have hs : (sizeOf 51).run Tryd.prog w = .ok 1 w := by kernel_rfl
  simp [Instr.index, asIntOf, run_underlying Tryd.underlying115, hs, part, arr_get m k h, Nat.not_le.2 h]

theorem step_load_row {ρ : Operand → Value} {o : Oper} {x : Operand} {w : World} {b : Nat} {t : TypeId} {c : Array Value} {fr : Nat × Nat} (ho : o.op = .load 115 x) (hx : ρ x = .pointer (some ⟨b, 0, none⟩))
    (h : w.heap[b]? = some (.cells c t fr)) (hi : (Tryd.prog.info? 115).map (·.size) = some c.size) : (execOp ρ o).run Tryd.prog w = .ok (.value (.agg c)) w := by
  unfold execOp
  simp only [ho, hx, Instr.loadAt, Instr.sureAddr, Sem.run_bind, Sem.run_pure, Result.andThen_ok, run_loadVar_row w b t 115 c fr _ h Tryd.underlying115 rfl hi]
theorem row_below {w w' : World} {b : Nat} {c : Array Value} {t : TypeId} {fr : Nat × Nat} (h : w.heap[b]? = some (.cells c t fr)) (hb : Below w.heap.size w w') : w'.heap[b]? = some (.cells c t fr) := by
  have h0 : b < w.heap.size := by
    rcases Nat.lt_or_ge b w.heap.size with h' | h'
    · exact h'
    · rw [Array.getElem?_eq_none h'] at h
      cases h
  rw [hb.block _ h0]
  exact h

end Go.Proofs.YtpijfghklgmefaaDoor

namespace Go.Proofs.YtpijfghklgmefaaDoor
open Go.RowKit
set_option linter.unusedVariables false

/-- Behind k rounds: the answer's row is still empty, k words are made. -/
structure Made (W : World) (F : Nat → W32) (k : Nat) (wr : World) : Prop where
  below : Below W.heap.size W wr
  old : wr.heap[W.heap.size]? = some (.cells (arr fun _ => 0) 115 (0, 0))
  row : wr.heap[W.heap.size + 1]? = some (.cells (arr fun i => if i < k then F i else 0) 115 (0, 0))

section
variable {W wr w1 : World} {F : Nat → W32} {k : Nat}
theorem Made.start (W : World) (F : Nat → W32) : Made W F 0 ((W.alloc (.cells (arr fun _ => 0) 115)).alloc (.cells (arr fun _ => 0) 115)) :=
  ⟨((Below.refl _ _).alloc (Nat.le_refl _) _).alloc (by simp) _, heap_alloc2_old W _ _, heap_alloc2_new W _ _⟩
theorem Made.below' (h : Made W F k wr) (hb : Below wr.heap.size wr w1) : Made W F k w1 :=
  ⟨h.below.trans (hb.mono h.below.size), row_below h.old hb, row_below h.row hb⟩
theorem Made.cell (h : Made W F k wr) (j : Nat) (hj : j < 32) : wr.cell? ⟨W.heap.size + 1, j, none⟩ = some (.int .u32 ((if j < k then F j else 0 : W32).toNat : Int)) := by
  rw [cell_of_row _ _ j _ _ _ h.row, arr_get _ j hj]
theorem Made.frozen (h : Made W F k wr) (j : Nat) : wr.frozen? ⟨W.heap.size + 1, j, none⟩ = false := frozen_of_row _ _ j _ _ h.row
theorem Made.next (h : Made W F k wr) (hk : k < 32) {x : W32} (hx : x = F k) : Made W F (k + 1) (wr.setCell ⟨W.heap.size + 1, k, none⟩ (.int .u32 (x.toNat : Int))) := by
  refine ⟨h.below.setCell (by simp) _, ?_, ?_⟩
  · rw [heap_setCell_other _ _ _ _ (by simp)]
    exact h.old
  · rw [heap_setCell_same _ _ _ _ _ _ h.row, arr_set _ _ _ hk, hx]
    congr 2
    apply arr_congr
    intro i hi
    show (if i = k then F k else if i < k then F i else 0) = _
    by_cases h1 : i = k
    · subst h1
      simp
    · by_cases h2 : i < k
      · simp [h1, h2, show i < k + 1 by omega]
      · simp [h1, h2, show ¬ i < k + 1 by omega]
theorem Made.whole (h : Made W F 32 wr) : wr.heap[W.heap.size + 1]? = some (.cells (arr F) 115 (0, 0)) := by
  rw [h.row, arr_congr (m := fun i => if i < 32 then F i else 0) (m' := F) (fun i hi => if_pos hi)]
theorem Made.done (h : Made W F k wr) (cs : Array Value) : Below W.heap.size W (wr.setRow W.heap.size cs) := by
  refine h.below.trans ⟨rfl, rfl, rfl, by simp, fun i hi => setRow_other wr _ i cs (by omega)⟩
end

end Go.Proofs.YtpijfghklgmefaaDoor

namespace Go.Proofs.YtpijfghklgmefaaDoor
open Go.RowKit
set_option linter.unusedVariables false

/-- The words of b8 done so many times. -/
def pw (k : Nat) (i : Nat) : W32 := rep b8 k (unit i)
theorem pw_tog (k : Nat) (c : W32) : tog (pw k) 32 c = rep b8 k c := lin_tog (rep_lin b8_lin k) c
theorem pw_twice (j : Nat) : (arr fun i => (fun x => tog (pw (2 ^ j)) 32 (tog (pw (2 ^ j)) 32 x)) (unit i)) = arr (pw (2 ^ (j + 1))) := by
  apply arr_congr
  intro i _
  show tog (pw (2 ^ j)) 32 (tog (pw (2 ^ j)) 32 (unit i)) = _
  rw [pw_tog, pw_tog, ← rep_add, pw, Nat.pow_succ, Nat.mul_two]
theorem pw_once : (arr fun i => b8 (unit i)) = arr (pw (2 ^ 0)) := arr_congr fun i _ => rfl

theorem half_odd (N j z : Nat) (hz : z = N / 2 ^ j) (h : z % 2 = 1) (c : W32) : rep b8 (2 ^ j) (rep b8 (N % 2 ^ j) c) = rep b8 (N % 2 ^ (j + 1)) c := by
  rw [← rep_add, Nat.pow_succ, Nat.mod_mul, ← hz, h, Nat.mul_one]
theorem half_even (N j z : Nat) (hz : z = N / 2 ^ j) (h : ¬ z % 2 = 1) (c : W32) : rep b8 (N % 2 ^ j) c = rep b8 (N % 2 ^ (j + 1)) c := by
  have : z % 2 = 0 := by omega
  rw [Nat.pow_succ, Nat.mod_mul, ← hz, this, Nat.mul_zero, Nat.add_zero]
theorem half_end (N j z : Nat) (hz : z = N / 2 ^ j) (h : z = 0) : N % 2 ^ j = N := by
  subst h
  have hp : 0 < 2 ^ j := Nat.pow_pos (by omega)
  have := Nat.div_add_mod N (2 ^ j)
  rw [← hz, Nat.mul_zero, Nat.zero_add] at this
  exact this

/-- Behind j doublings: the step's row holds what 2 to the j noughts make. -/
structure Doubled (W : World) (B j : Nat) (wr : World) : Prop where
  below : Below W.heap.size W wr
  high : W.heap.size ≤ B
  row : wr.heap[B]? = some (.cells (arr (pw (2 ^ j))) 115 (0, 0))
theorem Doubled.later {W wr w1 : World} {B j : Nat} (h : Doubled W B j wr) (hb : Below wr.heap.size wr w1) : Doubled W B j w1 := ⟨h.below.trans (hb.mono h.below.size), h.high, row_below h.row hb⟩

theorem Doubled.next {W wr : World} {B j k : Nat} (h : Doubled W B j wr) : Doubled W B k (wr.setRow B (arr (pw (2 ^ k)))) :=
  ⟨h.below.trans ⟨rfl, rfl, rfl, by simp, fun i hi => setRow_other _ _ i _ (by have := h.high; omega)⟩, h.high, setRow_heap _ _ _ _ _ _ h.row⟩
theorem Doubled.start {W w1 : World} (hb : Below W.heap.size W w1) (cs : Array Value) (m : Nat → W32) (hm : arr m = arr (pw (2 ^ 0))) : Doubled W w1.heap.size 0 ((w1.alloc (.cells cs 115)).setRow w1.heap.size (arr m)) :=
  ⟨hb.trans (((Below.refl _ _).alloc hb.size _).trans ⟨rfl, rfl, rfl, by simp, fun i hi => setRow_other _ _ i _ (by have := hb.size; omega)⟩), hb.size, by rw [hm]; exact setRow_heap _ _ _ _ _ _ (heap_alloc_new w1 _)⟩

end Go.Proofs.YtpijfghklgmefaaDoor

namespace Go.Proofs.YtpijfghklgmefaaDoor
open Go.RowKit
set_option linter.unusedVariables false

theorem ret_z {z : Int} {b : W32} (h : z = (b.toNat : Int)) : Ending.returned (.int .u32 z) = .returned (.int .u32 (b.toNat : Int)) := by rw [h]

theorem through_at (A : Option Addr) (n cp : Nat) (l : List UInt8) (z : Int) (c : W32) (hz : z = (c.toNat : Int)) (w : World) (hs : Sl w 1 A n cp (cells l)) (h : Nt w) :
    Calls Tryd.prog 69 #[.int .u32 z, .slice A n cp] w fun e w' => e = .returned (.int .u32 ((reg c l).toNat : Int)) ∧ Below w.heap.size w w' := by
  subst hz
  exact through_any A n cp l c w hs h

set_option maxHeartbeats 400000 in
set_option maxRecDepth 20000 in
theorem more_any (A : Option Addr) (n cp : Nat) (l : List UInt8) (c : W32) (w : World) (hs : Sl w 1 A n cp (cells l)) (h : Nt w) :
    Calls Tryd.prog 56 #[.int .u32 (c.toNat : Int), .slice A n cp] w fun e w' => e = .returned (.int .u32 ((more c l).toNat : Int)) ∧ Below w.heap.size w w' := by
  have Hs := Lib.hid hs; clear hs
  have H := Lib.hid h; clear h
  go_enter Tryd.func56, Tryd.ntmps56
  go_wp2_with fail
  refine (through_at A n cp l _ (~~~c) (max_w c) _ Hs.out H.out).mono ?_; rintro e w1 ⟨rfl, hb1⟩
  go_wp2_with fail
  go_ret
  exact ⟨ret_z (max_w _), hb1⟩

end Go.Proofs.YtpijfghklgmefaaDoor

namespace Go.Proofs.YtpijfghklgmefaaDoor
open Go.RowKit
set_option linter.unusedVariables false

theorem Sl.consts {w : World} {t : TypeId} {cs : Array Value} {fr : Nat × Nat} (l : List UInt8) (n : Nat) (hn : cs.size = n) (h63 : n ≤ maxLen) (h : cs.toList = cells l) : Sl (w.alloc (.cells cs t fr)) 1 (some ⟨w.heap.size, 0, none⟩) n n (cells l) := by
  rw [← h]
  exact ⟨by simpa using hn, Nat.le_refl _, h63, fun j u hu => ⟨w.heap.size, 0, rfl, by rw [cell_of_row _ _ _ cs t fr (heap_alloc_new w _), Nat.zero_add]; simpa using hu⟩⟩

theorem ex_whole : more 0 [49, 50, 51, 52, 53, 54, 55, 56, 57] = 3808858755#32 := by decide +kernel
theorem ex_join : joinW (more 0 [49, 50, 51, 52, 53]) (more 0 [54, 55, 56, 57]) (4 : Int).toNat = 3808858755#32 := by decide +kernel

end Go.Proofs.YtpijfghklgmefaaDoor

namespace Go.Proofs.YtpijfghklgmefaaDoor
open Go.RowKit
set_option linter.unusedVariables false

set_option maxHeartbeats 400000 in
set_option maxRecDepth 20000 in
theorem register_any (A : Option Addr) (n cp : Nat) (l : List UInt8) (c : W32) (w : World) (hs : Sl w 1 A n cp (cells l)) :
    Calls Tryd.prog 75 #[.int .u32 (c.toNat : Int), .slice A n cp] w fun e w' => e = .returned (.int .u32 ((reg c l).toNat : Int)) ∧ w = w' := by
  have hn := hs.lim
  unfold maxLen at hn
  have hl := hs.len
  rw [cells_length, Nat.mul_one] at hl
  have Hs := Lib.hid hs; clear hs
  have Hl := Lib.hid hl; clear hl
  go_enter Tryd.func75, Tryd.ntmps75
  go_wp2_with fail
  go_loop [0, 5, 6, 7, 8] (fun v i _ _ _ => ∃ (j : Nat) (y : W32), y = reg c (l.take j) ∧ j ≤ n ∧ i = .int .i64 (j : Int) ∧ v = .int .u32 (y.toNat : Int)) (fun _ i _ _ _ => n - (intOf i).toNat)
  case atStart => exact ⟨0, c, rfl, by omega, rfl, rfl⟩
  case round =>
    obtain ⟨j, y, hy, hj, rfl, rfl⟩ := hrel
    have Hy := Lib.hid hy; clear hy
    by_cases hlt : j < n
    · obtain ⟨b, o, rfl, hc⟩ := Hs.out.at_ hlt
      have hjl : j < l.length := by rw [Hl.out]; exact hlt
      have hcell := hc j _ (cells_get l j hjl)
      have Hc := Lib.hid hc; clear hc
      obtain ⟨u, hu⟩ : ∃ u, u = l[j] := ⟨_, rfl⟩
      rw [bv, ← hu] at hcell
      have Hu := Lib.hid hu; clear hu
      go_wp2_with fail
      go_loop [0, 6, 7, 8] (fun v k _ _ => ∃ (k' : Nat) (z : W32), z = rb (bw u) k' y ∧ k' ≤ 8 ∧ k = .int .i64 (k' : Int) ∧ v = .int .u32 (z.toNat : Int)) (fun _ k _ _ => 8 - (intOf k).toNat)
      case atStart => exact ⟨0, y, rfl, by omega, rfl, rfl⟩
      case round =>
        obtain ⟨k, z, hz, hk, rfl, rfl⟩ := hrel
        have Hz := Lib.hid hz; clear hz
        by_cases hlt8 : k < 8
        · obtain ⟨P, hP⟩ : ∃ P : Nat, P = 2 ^ k := ⟨_, rfl⟩
          have hp : (2 : Int) ^ k % 4294967296 = (P : Int) := by
            have : 2 ^ k < 4294967296 := Nat.pow_lt_pow_right (by omega) (show k < 32 by omega)
            rw [hP]
            have h3 : ((2 : Int) ^ k) = ((2 ^ k : Nat) : Int) := by simp
            rw [h3]
            omega
          have hp0 : 0 < P := by rw [hP]; exact Nat.pow_pos (by omega)
          have HP := Lib.hid hP; clear hP
          go_wp2_with fail
          · have ht : (((u.toNat : Int) % 4294967296 / (P : Int)).tmod 2 != (z.toNat : Int) % 2) = true := by assumption
            go_round
            case rel => exact ⟨k + 1, _, by rw [rb_one Hz.out ((crc_bit_test u z k P HP.out).symm.trans ht), if_pos rfl], by omega, by go_num, by rw [poly_w]⟩
            case measure => simp [intOf]; omega
          · have ht : (((u.toNat : Int) % 4294967296 / (P : Int)).tmod 2 != (z.toNat : Int) % 2) = false := by assumption
            go_round
            case rel => exact ⟨k + 1, _, by rw [rb_one Hz.out ((crc_bit_test u z k P HP.out).symm.trans ht), if_neg (by decide), x0], by omega, by go_num, by rw [half_w]⟩
            case measure => simp [intOf]; omega
        · obtain rfl : k = 8 := by omega
          go_wp2_with fail
          go_round
          case rel => exact ⟨j + 1, z, by rw [← List.take_append_getElem hjl, reg_snoc, ← Hy.out, ← Hu.out, Hz.out, rb_byte], by omega, by go_num, rfl⟩
          case measure => simp [intOf]; omega
    · go_wp2_with fail
      go_ret
      exact ⟨ret_w (by rw [Hy.out, List.take_of_length_le (by rw [Hl.out]; omega)]), rfl⟩

theorem register_at (A : Option Addr) (n cp : Nat) (l : List UInt8) (z : Int) (c : W32) (hz : z = (c.toNat : Int)) (w : World) (hs : Sl w 1 A n cp (cells l)) :
    Calls Tryd.prog 75 #[.int .u32 z, .slice A n cp] w fun e w' => e = .returned (.int .u32 ((reg c l).toNat : Int)) ∧ w = w' := by
  subst hz
  exact register_any A n cp l c w hs

set_option maxHeartbeats 400000 in
set_option maxRecDepth 20000 in
theorem crturned_any (c : W32) (w : World) : Calls Tryd.prog 74 #[.int .u32 (c.toNat : Int)] w fun e w' => e = .returned (.int .u32 ((~~~c).toNat : Int)) ∧ w = w' := by
  have hc := toNat_lt32 c
  have hnw := not_w c
  have Hnw := Lib.hid hnw; clear hnw
  go_enter Tryd.func74, Tryd.ntmps74
  go_wp2_with fail
  go_ret
  exact ⟨ret_z Hnw.out, rfl⟩
theorem crturned_at (z : Int) (c : W32) (hz : z = (c.toNat : Int)) (w : World) : Calls Tryd.prog 74 #[.int .u32 z] w fun e w' => e = .returned (.int .u32 ((~~~c).toNat : Int)) ∧ w = w' := by
  subst hz
  exact crturned_any c w

set_option maxHeartbeats 400000 in
set_option maxRecDepth 20000 in
theorem rmore_any (A : Option Addr) (n cp : Nat) (l : List UInt8) (c : W32) (w : World) (hs : Sl w 1 A n cp (cells l)) :
    Calls Tryd.prog 64 #[.int .u32 (c.toNat : Int), .slice A n cp] w fun e w' => e = .returned (.int .u32 ((more c l).toNat : Int)) ∧ w = w' := by
  have Hs := Lib.hid hs; clear hs
  obtain ⟨d, hd⟩ : ∃ d : W32, d = ~~~c := ⟨_, rfl⟩
  obtain ⟨q, hq⟩ : ∃ q : W32, q = ~~~reg d l := ⟨_, rfl⟩
  have Hd := Lib.hid hd; clear hd
  have Hq := Lib.hid hq; clear hq
  go_enter Tryd.func64, Tryd.ntmps64
  go_wp2_with fail
  refine (crturned_any c _).mono ?_; rintro e w' ⟨he, rfl⟩
  rw [← Hd.out] at he
  subst he
  go_wp2_with fail
  refine (register_any A n cp l d _ Hs.out).mono ?_; rintro e w' ⟨rfl, rfl⟩
  go_wp2_with fail
  refine (crturned_any (reg d l) _).mono ?_; rintro e w' ⟨he, rfl⟩
  rw [← Hq.out] at he
  subst he
  go_wp2_with fail
  go_ret
  exact ⟨ret_w (by rw [Hq.out, Hd.out, more]), rfl⟩

end Go.Proofs.YtpijfghklgmefaaDoor

namespace Go.Proofs.YtpijfghklgmefaaDoor

/-- A text whose bytes from the k-th on were taken with the first i bytes of a mask, by exclusive or. -/
def chg (l : List UInt8) (k : Nat) (mask : List UInt8) (i : Nat) : List UInt8 := l.mapIdx fun j u => if k ≤ j ∧ j < k + i then u ^^^ mask.getD (j - k) 0 else u
theorem chg_length (l : List UInt8) (k : Nat) (mask : List UInt8) (i : Nat) : (chg l k mask i).length = l.length := by simp [chg]
theorem chg_zero (l : List UInt8) (k : Nat) (mask : List UInt8) : chg l k mask 0 = l := by
  apply List.ext_getElem
  · simp [chg]
  · intro j h1 h2
    simp only [chg, List.getElem_mapIdx]
    rw [if_neg (by omega)]
theorem chg_at (l : List UInt8) (k : Nat) (mask : List UInt8) (i : Nat) (h : k + i < l.length) : (chg l k mask i)[k + i]? = some l[k + i] := by
  rw [List.getElem?_eq_getElem (by rw [chg_length]; exact h)]
  simp only [chg, List.getElem_mapIdx]
  rw [if_neg (by omega)]
theorem chg_next (l : List UInt8) (k : Nat) (mask : List UInt8) (i : Nat) (h : k + i < l.length) (hm : i < mask.length) : (chg l k mask i).set (k + i) (l[k + i] ^^^ mask[i]) = chg l k mask (i + 1) := by
  apply List.ext_getElem
  · simp [chg]
  · intro j h1 h2
    rw [List.getElem_set]
    by_cases hj : k + i = j
    · subst hj
      rw [if_pos rfl]
      simp only [chg, List.getElem_mapIdx]
      rw [if_pos (by omega), show k + i - k = i from by omega, List.getD_eq_getElem?_getD, List.getElem?_eq_getElem hm]
      rfl
    · rw [if_neg hj]
      simp only [chg, List.getElem_mapIdx]
      by_cases h3 : k ≤ j ∧ j < k + i
      · rw [if_pos h3, if_pos (by omega)]
      · rw [if_neg h3, if_neg (by omega)]
theorem chg_whole (l : List UInt8) (k : Nat) (mask : List UInt8) (h : k + mask.length ≤ l.length) : chg l k mask mask.length = l.take k ++ (lx ((l.drop k).take mask.length) mask ++ l.drop (k + mask.length)) := by
  apply List.ext_getElem?
  intro j
  simp only [chg, List.getElem?_mapIdx]
  by_cases h1 : j < k
  · rw [List.getElem?_append_left (by simp; omega), List.getElem?_take_of_lt h1]
    cases l[j]? with
    | none => rfl
    | some u => simp only [Option.map_some]; rw [if_neg (by omega)]
  · have ht : (l.take k).length = k := by simp; omega
    rw [List.getElem?_append_right (by omega), ht]
    have hx : (lx ((l.drop k).take mask.length) mask).length = mask.length := by simp [lx]; omega
    by_cases h2 : j < k + mask.length
    · rw [List.getElem?_append_left (by omega)]
      have hjl : j < l.length := by omega
      have hjm : j - k < mask.length := by omega
      rw [List.getElem?_eq_getElem hjl, lx, List.getElem?_zipWith, List.getElem?_take_of_lt hjm, List.getElem?_drop, show k + (j - k) = j from by omega, List.getElem?_eq_getElem hjl, List.getElem?_eq_getElem hjm]
      simp only [Option.map_some]
      rw [if_pos (by omega), List.getD_eq_getElem?_getD, List.getElem?_eq_getElem hjm]
      rfl
    · rw [List.getElem?_append_right (by omega), hx, List.getElem?_drop, show k + mask.length + (j - k - mask.length) = j from by omega]
      cases l[j]? with
      | none => rfl
      | some u => simp only [Option.map_some]; rw [if_neg (by omega)]
theorem chg_sum (l : List UInt8) (k : Nat) (mask : List UInt8) (h : k + mask.length ≤ l.length) : more 0 (chg l k mask mask.length) = turnedW (more 0 l) mask (l.length - mask.length - k) := by
  rw [chg_whole l k mask h, turned_more _ _ _ _ (by simp; omega)]
  have e : l.take k ++ ((l.drop k).take mask.length ++ l.drop (k + mask.length)) = l := by
    rw [← List.drop_drop, List.take_append_drop, List.take_append_drop]
  rw [e]
  congr 1
  simp
  omega

/-! Bit by bit. -/
def regb (f : Nat → Bool) : Nat → W32 → W32
  | 0, c => c
  | n + 1, c => st (regb f n c ^^^ (if f n then 1 else 0))
theorem regb_congr {f g : Nat → Bool} (c : W32) : ∀ n, (∀ x, x < n → f x = g x) → regb f n c = regb g n c
  | 0, _ => rfl
  | n + 1, h => by rw [regb, regb, regb_congr c n (fun x hx => h x (by omega)), h n (by omega)]
theorem regb_xor (f g : Nat → Bool) (c d : W32) : ∀ n, regb (fun x => f x ^^ g x) n (c ^^^ d) = regb f n c ^^^ regb g n d
  | 0 => rfl
  | n + 1 => by
    rw [regb, regb, regb, regb_xor f g c d n, ← st_lin, xor4]
    congr 2
    cases f n <;> cases g n <;> rfl
theorem regb_rest {f : Nat → Bool} (n : Nat) (c : W32) : ∀ m, (∀ x, n ≤ x → x < n + m → f x = false) → regb f (n + m) c = rep st m (regb f n c)
  | 0, _ => rfl
  | m + 1, h => by
    rw [← Nat.add_assoc, regb, regb_rest n c m (fun x h1 h2 => h x h1 (by omega)), h (n + m) (by omega) (by omega), rep_succ']
    congr 1
    exact x0 _
theorem rep_st_zero (m : Nat) : rep st m 0 = 0 := (rep_lin st_lin m).zero
theorem st_bit (d : W32) (b : Bool) : st (d ^^^ (if b then 1 else 0)) = (d >>> 1) ^^^ (if b != d.getLsbD 0 then poly else 0) := by
  rw [st, BitVec.ushiftRight_xor_distrib, BitVec.getLsbD_xor]
  cases b
  · simp
  · have e : ((if true = true then 1 else 0 : W32)) >>> 1 = 0 := by decide
    have e2 : ((if true = true then 1 else 0 : W32)).getLsbD 0 = true := by decide
    rw [e, e2, x0]
    cases d.getLsbD 0 <;> rfl
theorem regb_word {f : Nat → Bool} (X : W32) (s : Nat) (c : W32) : ∀ k, (∀ j, j < k → f (s + j) = X.getLsbD j) → regb f (s + k) c = rb X k (regb f s c)
  | 0, _ => rfl
  | k + 1, h => by rw [← Nat.add_assoc, regb, regb_word X s c k (fun j hj => h j (by omega)), h k (by omega), st_bit, rb]

/-- The x-th bit of a text, the lowest bit of a byte first. -/
def bitAt (l : List UInt8) (x : Nat) : Bool := (bw (l.getD (x / 8) 0)).getLsbD (x % 8)
theorem reg_bits (c : W32) (l : List UInt8) : ∀ k, k ≤ l.length → regb (bitAt l) (8 * k) c = reg c (l.take k)
  | 0, _ => rfl
  | k + 1, h => by
    have hk : k < l.length := by omega
    rw [Nat.mul_succ, regb_word (bw l[k]) (8 * k) c 8 (fun j hj => ?_), reg_bits c l k (by omega), ← List.take_append_getElem hk, reg_snoc, rb_byte]
    rw [bitAt, show (8 * k + j) / 8 = k from by omega, show (8 * k + j) % 8 = j from by omega, List.getD_eq_getElem?_getD, List.getElem?_eq_getElem hk]
    rfl

/-- L is l with the first i bits of mask turned, from the bit s on. -/
structure Flip (l L : List UInt8) (s : Nat) (mask : W32) (i : Nat) : Prop where
  len : L.length = l.length
  bit : ∀ x, x < 8 * l.length → bitAt L x = (bitAt l x ^^ (decide (s ≤ x ∧ x < s + i) && mask.getLsbD (x - s)))
theorem Flip.start (l : List UInt8) (s : Nat) (mask : W32) : Flip l l s mask 0 := ⟨rfl, fun x _ => by
  rw [decide_eq_false (by omega)]
  simp⟩
theorem Flip.stay {l L : List UInt8} {s i : Nat} {mask : W32} (h : Flip l L s mask i) (hb : mask.getLsbD i = false) : Flip l L s mask (i + 1) := ⟨h.len, fun x hx => by
  rw [h.bit x hx]
  congr 1
  by_cases h1 : x = s + i
  · subst h1
    rw [show s + i - s = i from by omega, hb]
    simp
  · congr 1
    exact decide_eq_decide.2 (by omega)⟩
/-- A byte with its r-th bit turned. -/
def tbit (u : UInt8) (r : Nat) : UInt8 := u ^^^ UInt8.ofNat (2 ^ r)
theorem tb_bit (u : UInt8) (r j : Nat) (hr : r < 8) : (bw (tbit u r)).getLsbD j = ((bw u).getLsbD j ^^ decide (j = r)) := by
  rw [tbit, bw_xor, BitVec.getLsbD_xor]
  congr 1
  rw [BitVec.getLsbD, bw_toNat, UInt8.toNat_ofNat', Nat.mod_eq_of_lt (Nat.pow_lt_pow_right (by omega) (show r < 8 from hr)), Nat.testBit_two_pow]
  exact decide_eq_decide.2 ⟨fun h => h.symm, fun h => h.symm⟩
theorem Flip.turn {l L : List UInt8} {s i : Nat} {mask : W32} (h : Flip l L s mask i) (hb : mask.getLsbD i = true) (hs : s + i < 8 * l.length) (u : UInt8) (hu : L[(s + i) / 8]? = some u) :
    Flip l (L.set ((s + i) / 8) (tbit u ((s + i) % 8))) s mask (i + 1) := ⟨by rw [List.length_set, h.len], fun x hx => by
  have hq : (s + i) / 8 < L.length := by rw [h.len]; omega
  have hbase := h.bit x hx
  by_cases h1 : x / 8 = (s + i) / 8
  · have e1 : bitAt (L.set ((s + i) / 8) (tbit u ((s + i) % 8))) x = (bw (tbit u ((s + i) % 8))).getLsbD (x % 8) := by
      rw [bitAt, h1, List.getD_eq_getElem?_getD, List.getElem?_set_self hq]
      rfl
    have e2 : bitAt L x = (bw u).getLsbD (x % 8) := by
      rw [bitAt, h1, List.getD_eq_getElem?_getD, hu]
      rfl
    rw [e1, tb_bit _ _ _ (by omega), ← e2, hbase, Bool.xor_assoc]
    congr 1
    by_cases h2 : x = s + i
    · subst h2
      rw [show s + i - s = i from by omega, hb]
      simp
    · have h3 : ¬ x % 8 = (s + i) % 8 := by omega
      rw [decide_eq_false h3, Bool.xor_false]
      congr 1
      exact decide_eq_decide.2 (by omega)
  · have e1 : bitAt (L.set ((s + i) / 8) (tbit u ((s + i) % 8))) x = bitAt L x := by
      rw [bitAt, bitAt, List.getD_eq_getElem?_getD, List.getElem?_set_ne (fun e => h1 e.symm), List.getD_eq_getElem?_getD]
    rw [e1, hbase]
    congr 2
    exact decide_eq_decide.2 (by
      have : ¬ x = s + i := fun e => h1 (by rw [e])
      omega)⟩
theorem Flip.sums {l L : List UInt8} {s : Nat} {mask : W32} (h : Flip l L s mask 32) (hs : s + 32 ≤ 8 * l.length) (hm : mask ≠ 0) : more 0 L ≠ more 0 l := by
  intro he
  unfold more at he
  have he2 : reg (~~~0) L = reg (~~~0) l := by
    have := congrArg (fun z : W32 => ~~~z) he
    simpa using this
  generalize (~~~0 : W32) = c at he2
  have a1 := reg_bits c L L.length (Nat.le_refl _)
  have a2 := reg_bits c l l.length (Nat.le_refl _)
  rw [List.take_length] at a1 a2
  let mm : Nat → Bool := fun x => decide (s ≤ x ∧ x < s + 32) && mask.getLsbD (x - s)
  have a3 : regb (bitAt L) (8 * L.length) c = regb (bitAt l) (8 * l.length) c ^^^ regb mm (8 * l.length) 0 := by
    have := regb_xor (bitAt l) mm c 0 (8 * l.length)
    rw [x0] at this
    rw [← this, h.len]
    exact regb_congr c _ (fun x hx => h.bit x hx)
  have a4 : regb mm (8 * l.length) 0 = rep st (8 * l.length - (s + 32)) (rep st 32 mask) := by
    obtain ⟨k, hk⟩ : ∃ k, 8 * l.length = s + 32 + k := ⟨8 * l.length - (s + 32), by omega⟩
    rw [hk, regb_rest (s + 32) 0 k (fun x h1 h2 => ?_), regb_word mask s 0 32 (fun j hj => ?_)]
    · have b1 : regb mm s 0 = 0 := by
        have := regb_rest (f := mm) 0 0 s (fun x h1 h2 => ?_)
        · rw [Nat.zero_add] at this
          rw [this]
          exact rep_st_zero s
        · show (decide (s ≤ x ∧ x < s + 32) && _) = false
          rw [decide_eq_false (by omega)]
          rfl
      have b2 := rb_st mask 0 32
      have b3 : mask >>> 32 = 0 := by
        apply BitVec.eq_of_toNat_eq
        rw [BitVec.toNat_ushiftRight, Nat.shiftRight_eq_div_pow, Nat.div_eq_of_lt mask.isLt]
        rfl
      rw [b3, x0, zx] at b2
      rw [b1, b2, show s + 32 + k - (s + 32) = k from by omega]
    · show (decide (s ≤ s + j ∧ s + j < s + 32) && mask.getLsbD (s + j - s)) = _
      rw [decide_eq_true (by omega), show s + j - s = j from by omega]
      rfl
    · show (decide (s ≤ x ∧ x < s + 32) && _) = false
      rw [decide_eq_false (by omega)]
      rfl
  rw [a4] at a3
  rw [← a1, ← a2, a3] at he2
  have a5 : rep st (8 * l.length - (s + 32)) (rep st 32 mask) = 0 := by
    have := congrArg (fun z : W32 => regb (bitAt l) (8 * l.length) c ^^^ z) he2
    simp only [← BitVec.xor_assoc, BitVec.xor_self, BitVec.zero_xor] at this
    exact this
  exact hm (rep_st_inj 32 _ (rep_st_inj _ _ a5))
end Go.Proofs.YtpijfghklgmefaaDoor

namespace Go.Proofs.YtpijfghklgmefaaDoor
set_option linter.unusedVariables false

theorem bw_ofNat_bit (n j : Nat) (hj : j < 8) : (bw (UInt8.ofNat n)).getLsbD j = n.testBit j := by
  rw [BitVec.getLsbD, bw_toNat, UInt8.toNat_ofNat', Nat.testBit_mod_two_pow, decide_eq_true hj, Bool.true_and]
theorem le_getD (n : Nat) : ∀ (k q : Nat), q < k → (le k n).getD q 0 = UInt8.ofNat (n / 256 ^ q)
  | 0, q, h => absurd h (by omega)
  | k + 1, q, h => by
    rw [le, List.getD_eq_getElem?_getD]
    by_cases hq : q < k
    · rw [List.getElem?_append_left (by rw [le_length]; exact hq), ← List.getD_eq_getElem?_getD]
      exact le_getD n k q hq
    · obtain rfl : q = k := by omega
      rw [List.getElem?_append_right (by rw [le_length]; exact Nat.le_refl _), le_length]
      simp
/-- A word's four bytes, the lowest first, have the word's bits. -/
theorem bitAt_word (c : W32) (x : Nat) (hx : x < 32) : bitAt (le 4 c.toNat) x = c.getLsbD x := by
  have h : x = 8 * (x / 8) + x % 8 := by omega
  rw [bitAt, le_getD _ 4 _ (by omega), bw_ofNat_bit _ _ (by omega), show (256 : Nat) = 2 ^ 8 from rfl, ← Nat.pow_mul, ← Nat.shiftRight_eq_div_pow, Nat.testBit_shiftRight, ← h]
  rfl
/-- The mask's bytes laid over four of a text's: its bits are turned. -/
theorem chg_flip (l : List UInt8) (k : Nat) (mask : W32) (h : k + 4 ≤ l.length) : Flip l (chg l k (le 4 mask.toNat) 4) (8 * k) mask 32 := by
  refine ⟨chg_length _ _ _ _, fun x hx => ?_⟩
  have hxl : x / 8 < l.length := by omega
  have e0 : (chg l k (le 4 mask.toNat) 4).getD (x / 8) 0 = if k ≤ x / 8 ∧ x / 8 < k + 4 then l.getD (x / 8) 0 ^^^ (le 4 mask.toNat).getD (x / 8 - k) 0 else l.getD (x / 8) 0 := by
    rw [List.getD_eq_getElem?_getD, List.getD_eq_getElem?_getD, chg, List.getElem?_mapIdx, List.getElem?_eq_getElem hxl]
    rfl
  by_cases hq : k ≤ x / 8 ∧ x / 8 < k + 4
  · rw [if_pos hq] at e0
    have hd : decide (8 * k ≤ x ∧ x < 8 * k + 32) = true := decide_eq_true (by omega)
    have hb := bitAt_word mask (x - 8 * k) (by omega)
    rw [bitAt, show (x - 8 * k) / 8 = x / 8 - k by omega, show (x - 8 * k) % 8 = x % 8 by omega] at hb
    rw [bitAt, e0, bw_xor, BitVec.getLsbD_xor, hb, hd, Bool.true_and]
    rfl
  · rw [if_neg hq] at e0
    have hd : decide (8 * k ≤ x ∧ x < 8 * k + 32) = false := decide_eq_false (by omega)
    rw [bitAt, e0, hd, Bool.false_and, Bool.xor_false]
    rfl
end Go.Proofs.YtpijfghklgmefaaDoor
