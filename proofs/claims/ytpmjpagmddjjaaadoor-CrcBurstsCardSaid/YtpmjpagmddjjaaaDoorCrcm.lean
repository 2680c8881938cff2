/-
  Plain mathematics of a check sum of 32 bits: the register's step ('st'), a byte's ('b8'), a text's ('reg'), what goes over sums of bits ('Lin'), many noughts at once, bursts. No program, no condition.
-/
namespace Go.Proofs.YtpmjpagmddjjaaaDoor

abbrev W32 := BitVec 32

/-- What goes over exclusive or. -/
def Lin (f : W32 → W32) : Prop := ∀ a b, f (a ^^^ b) = f a ^^^ f b
theorem Lin.comp {f g : W32 → W32} (hf : Lin f) (hg : Lin g) : Lin fun x => f (g x) := fun a b => by show f (g (a ^^^ b)) = f (g a) ^^^ f (g b); rw [hg, hf]
theorem Lin.zero {f : W32 → W32} (hf : Lin f) : f 0 = 0 := by
  have h := hf 0 0
  rw [BitVec.xor_self, BitVec.xor_self] at h
  exact h

theorem x0 (a : W32) : a ^^^ 0 = a := BitVec.xor_zero
theorem zx (a : W32) : 0 ^^^ a = a := BitVec.zero_xor

theorem xor4 (a b c d : W32) : (a ^^^ b) ^^^ (c ^^^ d) = (a ^^^ c) ^^^ (b ^^^ d) := by
  rw [BitVec.xor_assoc, BitVec.xor_assoc, ← BitVec.xor_assoc b c d, BitVec.xor_comm b c, BitVec.xor_assoc c b d]
theorem xor_cancel_right {a b c : W32} (h : a ^^^ c = b ^^^ c) : a = b := by
  have := congrArg (· ^^^ c) h
  simpa [BitVec.xor_assoc] using this

/-- The sum of m's words at the bits of w, the first k of them. -/
def tog (m : Nat → W32) : Nat → W32 → W32
  | 0, _ => 0
  | k + 1, w => tog m k w ^^^ (if w.getLsbD k then m k else 0)

theorem tog_congr {m m' : Nat → W32} (w : W32) : ∀ k, (∀ i, i < k → m i = m' i) → tog m k w = tog m' k w
  | 0, _ => rfl
  | k + 1, h => by rw [tog, tog, tog_congr w k (fun i hi => h i (by omega)), h k (by omega)]
theorem tog_map {f : W32 → W32} (hf : Lin f) (m : Nat → W32) (w : W32) : ∀ k, f (tog m k w) = tog (fun i => f (m i)) k w
  | 0 => hf.zero
  | k + 1 => by
    rw [tog, tog, hf, tog_map hf m w k]
    congr 1
    split
    · rfl
    · exact hf.zero
theorem tog_lin (m : Nat → W32) : ∀ k, Lin (tog m k)
  | 0 => fun a b => by simp [tog]
  | k + 1 => fun a b => by
    rw [tog, tog, tog, tog_lin m k a b, xor4, BitVec.getLsbD_xor]
    congr 1
    cases a.getLsbD k <;> cases b.getLsbD k <;> simp

def unit (i : Nat) : W32 := (1 : W32) <<< i
theorem unit_bit (i j : Nat) : (unit i).getLsbD j = (decide (j < 32) && decide (j = i)) := by
  unfold unit
  rw [BitVec.getLsbD_shiftLeft]
  simp only [BitVec.ofNat_eq_ofNat, BitVec.getLsbD_one]
  by_cases h : j < 32 <;> by_cases h2 : j < i <;> by_cases h3 : j = i <;> simp_all <;> omega
theorem tog_unit_bit (w : W32) (j : Nat) : ∀ k, k ≤ 32 → (tog unit k w).getLsbD j = (decide (j < k) && w.getLsbD j)
  | 0, _ => by simp [tog]
  | k + 1, hk => by
    rw [tog, BitVec.getLsbD_xor, tog_unit_bit w j k (by omega)]
    by_cases hw : w.getLsbD k
    · rw [if_pos hw, unit_bit]
      by_cases h1 : j = k
      · subst h1
        simp [hw]
        omega
      · have : decide (j < k + 1) = decide (j < k) := by simp; omega
        simp [h1, this]
    · rw [if_neg hw]
      by_cases h1 : j = k
      · subst h1
        simp [hw]
      · have : decide (j < k + 1) = decide (j < k) := by simp; omega
        simp [this]
theorem tog_unit (w : W32) : tog unit 32 w = w := by
  apply BitVec.eq_of_getLsbD_eq
  intro i hi
  rw [tog_unit_bit w i 32 (Nat.le_refl _)]
  simp [hi]

/-- What goes over sums of bits is told by what it makes of each bit. -/
theorem lin_tog {f : W32 → W32} (hf : Lin f) (w : W32) : tog (fun i => f (unit i)) 32 w = f w := by
  rw [← tog_map hf, tog_unit]
theorem lin_ext {f g : W32 → W32} (hf : Lin f) (hg : Lin g) (h : ∀ i, i < 32 → f (unit i) = g (unit i)) (w : W32) : f w = g w := by
  rw [← lin_tog hf, ← lin_tog hg]
  exact tog_congr w 32 h

/-- f done k times. -/
def rep (f : W32 → W32) : Nat → W32 → W32
  | 0, w => w
  | k + 1, w => rep f k (f w)
theorem rep_add (f : W32 → W32) : ∀ a b w, rep f (a + b) w = rep f b (rep f a w)
  | 0, b, w => by rw [Nat.zero_add]; rfl
  | a + 1, b, w => by rw [show a + 1 + b = (a + b) + 1 from by omega, rep, rep, rep_add f a b]
theorem rep_lin {f : W32 → W32} (hf : Lin f) : ∀ k, Lin (rep f k)
  | 0 => fun _ _ => rfl
  | k + 1 => fun a b => by rw [rep, rep, rep, hf, rep_lin hf k]
theorem rep_rep (f : W32 → W32) (j : Nat) : ∀ k w, rep (rep f j) k w = rep f (j * k) w
  | 0, w => rfl
  | k + 1, w => by rw [rep, rep_rep f j k, Nat.mul_succ, Nat.add_comm, rep_add]
theorem rep_succ' (f : W32 → W32) (k : Nat) (w : W32) : rep f (k + 1) w = f (rep f k w) := by rw [rep_add f k 1]; rfl

def poly : W32 := 0x82f63b78#32
/-- What one bit makes of the register. -/
def st (c : W32) : W32 := (c >>> 1) ^^^ (if c.getLsbD 0 then poly else 0)
theorem st_lin : Lin st := fun a b => by
  unfold st
  rw [BitVec.ushiftRight_xor_distrib, xor4, BitVec.getLsbD_xor]
  congr 1
  cases a.getLsbD 0 <;> cases b.getLsbD 0 <;> simp
theorem st_inj {c : W32} (h : st c = 0) : c = 0 := by
  unfold st at h
  by_cases hb : c.getLsbD 0
  · rw [if_pos hb] at h
    have := congrArg (·.getLsbD 31) h
    simp [poly] at this
  · rw [if_neg hb] at h
    apply BitVec.eq_of_getLsbD_eq
    intro i hi
    rcases i with _ | i
    · simpa using hb
    · have := congrArg (·.getLsbD i) h
      simpa [Nat.add_comm] using this
theorem rep_st_inj : ∀ k (c : W32), rep st k c = 0 → c = 0
  | 0, _, h => h
  | k + 1, _, h => st_inj (rep_st_inj k _ h)

/-- What a nought byte makes of the register. -/
def b8 (c : W32) : W32 := rep st 8 c
theorem b8_lin : Lin b8 := rep_lin st_lin 8

/-- A byte as a word. -/
def bw (u : UInt8) : W32 := BitVec.ofNat 32 u.toNat
theorem bw_toNat (u : UInt8) : (bw u).toNat = u.toNat := by
  simp [bw]
theorem bw_bit (u : UInt8) (j : Nat) (h : 8 ≤ j) : (bw u).getLsbD j = false := by
  rw [BitVec.getLsbD, bw_toNat, Nat.testBit_lt_two_pow]
  exact Nat.lt_of_lt_of_le u.toNat_lt (Nat.pow_le_pow_right (by omega) h)
theorem bw_shift (u : UInt8) : bw u >>> 8 = 0 := by
  apply BitVec.eq_of_getLsbD_eq
  intro i hi
  rw [BitVec.getLsbD_ushiftRight, bw_bit u _ (by omega)]
  exact BitVec.getLsbD_zero.symm
theorem bw_xor (u v : UInt8) : bw (u ^^^ v) = bw u ^^^ bw v := by
  apply BitVec.eq_of_toNat_eq
  rw [BitVec.toNat_xor, bw_toNat, bw_toNat, bw_toNat, UInt8.toNat_xor]

/-- What a text makes of the register. -/
def reg (c : W32) (l : List UInt8) : W32 := l.foldl (fun r x => b8 (r ^^^ bw x)) c
theorem reg_cons (c : W32) (u : UInt8) (l : List UInt8) : reg c (u :: l) = reg (b8 (c ^^^ bw u)) l := rfl
theorem reg_append (c : W32) (l k : List UInt8) : reg c (l ++ k) = reg (reg c l) k := List.foldl_append
theorem reg_snoc (c : W32) (l : List UInt8) (u : UInt8) : reg c (l ++ [u]) = b8 (reg c l ^^^ bw u) := by rw [reg_append]; rfl
theorem reg_noughts (c : W32) : ∀ n, reg c (List.replicate n 0) = rep b8 n c
  | 0 => rfl
  | n + 1 => by
    rw [List.replicate_succ, reg_cons, reg_noughts _ n, rep]
    congr 2
    simp [bw]
/-- Two texts of one length, taken together by exclusive or. -/
def lx (l k : List UInt8) : List UInt8 := List.zipWith (· ^^^ ·) l k
theorem reg_lx : ∀ (l k : List UInt8) (c d : W32), l.length = k.length → reg (c ^^^ d) (lx l k) = reg c l ^^^ reg d k
  | [], [], c, d, _ => rfl
  | u :: l, v :: k, c, d, h => by
    rw [show lx (u :: l) (v :: k) = (u ^^^ v) :: lx l k from rfl, reg_cons, reg_cons, reg_cons, bw_xor, xor4, b8_lin]
    exact reg_lx l k _ _ (by simpa using h)
theorem reg_split (c : W32) (l : List UInt8) : reg c l = rep b8 l.length c ^^^ reg 0 l := by
  have h := reg_lx (List.replicate l.length 0) l c 0 (by simp)
  rw [reg_noughts, x0] at h
  rw [← h]
  congr 1
  unfold lx
  apply List.ext_getElem
  · simp
  · intro i h1 h2
    simp
theorem rep_xor_reg (c d : W32) (l : List UInt8) : reg (c ^^^ d) l = rep b8 l.length c ^^^ reg d l := by
  rw [reg_split, rep_lin b8_lin, reg_split d, BitVec.xor_assoc]

/-- The sum of a text, going on from a sum. -/
def more (s : W32) (l : List UInt8) : W32 := ~~~reg (~~~s) l
def zeros (s : W32) (n : Nat) : W32 := ~~~rep b8 n (~~~s)
def joinW (a b : W32) (n : Nat) : W32 := rep b8 n a ^^^ b
def turnedW (s : W32) (mask : List UInt8) (n : Nat) : W32 := s ^^^ rep b8 n (reg 0 mask)

theorem not_eq (a : W32) : ~~~a = a ^^^ BitVec.allOnes 32 := by rw [BitVec.xor_allOnes]
theorem not_xor (a b : W32) : ~~~(a ^^^ b) = a ^^^ ~~~b := by rw [not_eq, not_eq, BitVec.xor_assoc]

theorem join_more (a b : List UInt8) : joinW (more 0 a) (more 0 b) b.length = more 0 (a ++ b) := by
  unfold joinW more
  rw [reg_append, reg_split (reg (~~~0) a) b, reg_split (~~~0) b, not_eq (reg _ a), rep_lin b8_lin, not_eq (0 : W32), zx, not_eq, not_eq, BitVec.xor_assoc, ← BitVec.xor_assoc (rep b8 b.length (BitVec.allOnes 32)), ← BitVec.xor_assoc (rep b8 b.length (BitVec.allOnes 32)), BitVec.xor_self, BitVec.zero_xor, BitVec.xor_assoc]
theorem more_more (a b : List UInt8) : more (more 0 a) b = more 0 (a ++ b) := by
  unfold more
  rw [BitVec.not_not, reg_append]
theorem join_none (a : W32) : joinW a 0 0 = a := by simp [joinW, rep]
theorem zeros_zeros (s : W32) (a b : Nat) : zeros (zeros s a) b = zeros s (a + b) := by
  unfold zeros
  rw [BitVec.not_not, rep_add]
theorem join_join (s : W32) (a b : Nat) : joinW (joinW s 0 a) 0 b = joinW s 0 (a + b) := by
  unfold joinW
  rw [x0, x0, x0, rep_add]

/-- A text in which a mask stands, by exclusive or, behind k bytes and ahead of the rest. -/
theorem turned_more (p m l q : List UInt8) (h : m.length = l.length) : more 0 (p ++ (lx l m ++ q)) = turnedW (more 0 (p ++ (l ++ q))) m q.length := by
  unfold more turnedW
  rw [reg_append, reg_append, reg_append, reg_append]
  generalize reg (~~~0) p = c
  have e : reg c (lx l m) = reg c l ^^^ reg 0 m := by
    have := reg_lx l m c 0 h.symm
    rwa [x0] at this
  rw [e, BitVec.xor_comm (reg c l), rep_xor_reg, BitVec.xor_comm, not_eq, not_eq, BitVec.xor_assoc, BitVec.xor_assoc, BitVec.xor_comm (BitVec.allOnes 32)]
end Go.Proofs.YtpmjpagmddjjaaaDoor
