/-
  Plain mathematics of changed texts: a mask laid over a part ('chg'); the register bit by bit over a text's bits ('regb'), bits turned within 32 side by side ('Flip'). No program, no condition.
-/
import Derived.Test.YtpmjpagmddjjaaaDoorCrcn
namespace Go.Proofs.YtpmjpagmddjjaaaDoor

/-- A text whose bytes from the k-th on were taken with the first i bytes of a mask, by exclusive or. -/
def chg (l : List UInt8) (k : Nat) (mask : List UInt8) (i : Nat) : List UInt8 := l.mapIdx fun j u => if k ≤ j ∧ j < k + i then u ^^^ mask.getD (j - k) 0 else u
theorem chg_length (l : List UInt8) (k : Nat) (mask : List UInt8) (i : Nat) : (chg l k mask i).length = l.length := by simp [chg]
theorem chg_zero (l : List UInt8) (k : Nat) (mask : List UInt8) : chg l k mask 0 = l := by
  apply List.ext_getElem
  · simp [chg]
  · intro j h1 h2
    simp only [chg, List.getElem_mapIdx]
    rw [if_neg (by omega)]
theorem chg_at (l : List UInt8) (k : Nat) (mask : List UInt8) (i : Nat) (h : k + i < l.length) : (chg l k mask i)[k + i]? = some l[k + i] := by
  rw [List.getElem?_eq_getElem (by rw [chg_length]; exact h)]
  simp only [chg, List.getElem_mapIdx]
  rw [if_neg (by omega)]
theorem chg_next (l : List UInt8) (k : Nat) (mask : List UInt8) (i : Nat) (h : k + i < l.length) (hm : i < mask.length) : (chg l k mask i).set (k + i) (l[k + i] ^^^ mask[i]) = chg l k mask (i + 1) := by
  apply List.ext_getElem
  · simp [chg]
  · intro j h1 h2
    rw [List.getElem_set]
    by_cases hj : k + i = j
    · subst hj
      rw [if_pos rfl]
      simp only [chg, List.getElem_mapIdx]
      rw [if_pos (by omega), show k + i - k = i from by omega, List.getD_eq_getElem?_getD, List.getElem?_eq_getElem hm]
      rfl
    · rw [if_neg hj]
      simp only [chg, List.getElem_mapIdx]
      by_cases h3 : k ≤ j ∧ j < k + i
      · rw [if_pos h3, if_pos (by omega)]
      · rw [if_neg h3, if_neg (by omega)]
theorem chg_whole (l : List UInt8) (k : Nat) (mask : List UInt8) (h : k + mask.length ≤ l.length) : chg l k mask mask.length = l.take k ++ (lx ((l.drop k).take mask.length) mask ++ l.drop (k + mask.length)) := by
  apply List.ext_getElem?
  intro j
  simp only [chg, List.getElem?_mapIdx]
  by_cases h1 : j < k
  · rw [List.getElem?_append_left (by simp; omega), List.getElem?_take_of_lt h1]
    cases l[j]? with
    | none => rfl
    | some u => simp only [Option.map_some]; rw [if_neg (by omega)]
  · have ht : (l.take k).length = k := by simp; omega
    rw [List.getElem?_append_right (by omega), ht]
    have hx : (lx ((l.drop k).take mask.length) mask).length = mask.length := by simp [lx]; omega
    by_cases h2 : j < k + mask.length
    · rw [List.getElem?_append_left (by omega)]
      have hjl : j < l.length := by omega
      have hjm : j - k < mask.length := by omega
      rw [List.getElem?_eq_getElem hjl, lx, List.getElem?_zipWith, List.getElem?_take_of_lt hjm, List.getElem?_drop, show k + (j - k) = j from by omega, List.getElem?_eq_getElem hjl, List.getElem?_eq_getElem hjm]
      simp only [Option.map_some]
      rw [if_pos (by omega), List.getD_eq_getElem?_getD, List.getElem?_eq_getElem hjm]
      rfl
    · rw [List.getElem?_append_right (by omega), hx, List.getElem?_drop, show k + mask.length + (j - k - mask.length) = j from by omega]
      cases l[j]? with
      | none => rfl
      | some u => simp only [Option.map_some]; rw [if_neg (by omega)]
theorem chg_sum (l : List UInt8) (k : Nat) (mask : List UInt8) (h : k + mask.length ≤ l.length) : more 0 (chg l k mask mask.length) = turnedW (more 0 l) mask (l.length - mask.length - k) := by
  rw [chg_whole l k mask h, turned_more _ _ _ _ (by simp; omega)]
  have e : l.take k ++ ((l.drop k).take mask.length ++ l.drop (k + mask.length)) = l := by
    rw [← List.drop_drop, List.take_append_drop, List.take_append_drop]
  rw [e]
  congr 1
  simp
  omega

/-! Bit by bit. -/
def regb (f : Nat → Bool) : Nat → W32 → W32
  | 0, c => c
  | n + 1, c => st (regb f n c ^^^ (if f n then 1 else 0))
theorem regb_congr {f g : Nat → Bool} (c : W32) : ∀ n, (∀ x, x < n → f x = g x) → regb f n c = regb g n c
  | 0, _ => rfl
  | n + 1, h => by rw [regb, regb, regb_congr c n (fun x hx => h x (by omega)), h n (by omega)]
theorem regb_xor (f g : Nat → Bool) (c d : W32) : ∀ n, regb (fun x => f x ^^ g x) n (c ^^^ d) = regb f n c ^^^ regb g n d
  | 0 => rfl
  | n + 1 => by
    rw [regb, regb, regb, regb_xor f g c d n, ← st_lin, xor4]
    congr 2
    cases f n <;> cases g n <;> rfl
theorem regb_rest {f : Nat → Bool} (n : Nat) (c : W32) : ∀ m, (∀ x, n ≤ x → x < n + m → f x = false) → regb f (n + m) c = rep st m (regb f n c)
  | 0, _ => rfl
  | m + 1, h => by
    rw [← Nat.add_assoc, regb, regb_rest n c m (fun x h1 h2 => h x h1 (by omega)), h (n + m) (by omega) (by omega), rep_succ']
    congr 1
    exact x0 _
theorem rep_st_zero (m : Nat) : rep st m 0 = 0 := (rep_lin st_lin m).zero
theorem st_bit (d : W32) (b : Bool) : st (d ^^^ (if b then 1 else 0)) = (d >>> 1) ^^^ (if b != d.getLsbD 0 then poly else 0) := by
  rw [st, BitVec.ushiftRight_xor_distrib, BitVec.getLsbD_xor]
  cases b
  · simp
  · have e : ((if true = true then 1 else 0 : W32)) >>> 1 = 0 := by decide
    have e2 : ((if true = true then 1 else 0 : W32)).getLsbD 0 = true := by decide
    rw [e, e2, x0]
    cases d.getLsbD 0 <;> rfl
theorem regb_word {f : Nat → Bool} (X : W32) (s : Nat) (c : W32) : ∀ k, (∀ j, j < k → f (s + j) = X.getLsbD j) → regb f (s + k) c = rb X k (regb f s c)
  | 0, _ => rfl
  | k + 1, h => by rw [← Nat.add_assoc, regb, regb_word X s c k (fun j hj => h j (by omega)), h k (by omega), st_bit, rb]

/-- The x-th bit of a text, the lowest bit of a byte first. -/
def bitAt (l : List UInt8) (x : Nat) : Bool := (bw (l.getD (x / 8) 0)).getLsbD (x % 8)
theorem reg_bits (c : W32) (l : List UInt8) : ∀ k, k ≤ l.length → regb (bitAt l) (8 * k) c = reg c (l.take k)
  | 0, _ => rfl
  | k + 1, h => by
    have hk : k < l.length := by omega
    rw [Nat.mul_succ, regb_word (bw l[k]) (8 * k) c 8 (fun j hj => ?_), reg_bits c l k (by omega), ← List.take_append_getElem hk, reg_snoc, rb_byte]
    rw [bitAt, show (8 * k + j) / 8 = k from by omega, show (8 * k + j) % 8 = j from by omega, List.getD_eq_getElem?_getD, List.getElem?_eq_getElem hk]
    rfl

/-- L is l with the first i bits of mask turned, from the bit s on. -/
structure Flip (l L : List UInt8) (s : Nat) (mask : W32) (i : Nat) : Prop where
  len : L.length = l.length
  bit : ∀ x, x < 8 * l.length → bitAt L x = (bitAt l x ^^ (decide (s ≤ x ∧ x < s + i) && mask.getLsbD (x - s)))
theorem Flip.start (l : List UInt8) (s : Nat) (mask : W32) : Flip l l s mask 0 := ⟨rfl, fun x _ => by
  rw [decide_eq_false (by omega)]
  simp⟩
theorem Flip.stay {l L : List UInt8} {s i : Nat} {mask : W32} (h : Flip l L s mask i) (hb : mask.getLsbD i = false) : Flip l L s mask (i + 1) := ⟨h.len, fun x hx => by
  rw [h.bit x hx]
  congr 1
  by_cases h1 : x = s + i
  · subst h1
    rw [show s + i - s = i from by omega, hb]
    simp
  · congr 1
    exact decide_eq_decide.2 (by omega)⟩
/-- A byte with its r-th bit turned. -/
def tb (u : UInt8) (r : Nat) : UInt8 := u ^^^ UInt8.ofNat (2 ^ r)
theorem tb_bit (u : UInt8) (r j : Nat) (hr : r < 8) : (bw (tb u r)).getLsbD j = ((bw u).getLsbD j ^^ decide (j = r)) := by
  rw [tb, bw_xor, BitVec.getLsbD_xor]
  congr 1
  rw [BitVec.getLsbD, bw_toNat, UInt8.toNat_ofNat', Nat.mod_eq_of_lt (Nat.pow_lt_pow_right (by omega) (show r < 8 from hr)), Nat.testBit_two_pow]
  exact decide_eq_decide.2 ⟨fun h => h.symm, fun h => h.symm⟩
theorem Flip.turn {l L : List UInt8} {s i : Nat} {mask : W32} (h : Flip l L s mask i) (hb : mask.getLsbD i = true) (hs : s + i < 8 * l.length) (u : UInt8) (hu : L[(s + i) / 8]? = some u) :
    Flip l (L.set ((s + i) / 8) (tb u ((s + i) % 8))) s mask (i + 1) := ⟨by rw [List.length_set, h.len], fun x hx => by
  have hq : (s + i) / 8 < L.length := by rw [h.len]; omega
  have hbase := h.bit x hx
  by_cases h1 : x / 8 = (s + i) / 8
  · have e1 : bitAt (L.set ((s + i) / 8) (tb u ((s + i) % 8))) x = (bw (tb u ((s + i) % 8))).getLsbD (x % 8) := by
      rw [bitAt, h1, List.getD_eq_getElem?_getD, List.getElem?_set_self hq]
      rfl
    have e2 : bitAt L x = (bw u).getLsbD (x % 8) := by
      rw [bitAt, h1, List.getD_eq_getElem?_getD, hu]
      rfl
    rw [e1, tb_bit _ _ _ (by omega), ← e2, hbase, Bool.xor_assoc]
    congr 1
    by_cases h2 : x = s + i
    · subst h2
      rw [show s + i - s = i from by omega, hb]
      simp
    · have h3 : ¬ x % 8 = (s + i) % 8 := by omega
      rw [decide_eq_false h3, Bool.xor_false]
      congr 1
      exact decide_eq_decide.2 (by omega)
  · have e1 : bitAt (L.set ((s + i) / 8) (tb u ((s + i) % 8))) x = bitAt L x := by
      rw [bitAt, bitAt, List.getD_eq_getElem?_getD, List.getElem?_set_ne (fun e => h1 e.symm), List.getD_eq_getElem?_getD]
    rw [e1, hbase]
    congr 2
    exact decide_eq_decide.2 (by
      have : ¬ x = s + i := fun e => h1 (by rw [e])
      omega)⟩
theorem Flip.sums {l L : List UInt8} {s : Nat} {mask : W32} (h : Flip l L s mask 32) (hs : s + 32 ≤ 8 * l.length) (hm : mask ≠ 0) : more 0 L ≠ more 0 l := by
  intro he
  unfold more at he
  have he2 : reg (~~~0) L = reg (~~~0) l := by
    have := congrArg (fun z : W32 => ~~~z) he
    simpa using this
  generalize (~~~0 : W32) = c at he2
  have a1 := reg_bits c L L.length (Nat.le_refl _)
  have a2 := reg_bits c l l.length (Nat.le_refl _)
  rw [List.take_length] at a1 a2
  let mm : Nat → Bool := fun x => decide (s ≤ x ∧ x < s + 32) && mask.getLsbD (x - s)
  have a3 : regb (bitAt L) (8 * L.length) c = regb (bitAt l) (8 * l.length) c ^^^ regb mm (8 * l.length) 0 := by
    have := regb_xor (bitAt l) mm c 0 (8 * l.length)
    rw [x0] at this
    rw [← this, h.len]
    exact regb_congr c _ (fun x hx => h.bit x hx)
  have a4 : regb mm (8 * l.length) 0 = rep st (8 * l.length - (s + 32)) (rep st 32 mask) := by
    obtain ⟨k, hk⟩ : ∃ k, 8 * l.length = s + 32 + k := ⟨8 * l.length - (s + 32), by omega⟩
    rw [hk, regb_rest (s + 32) 0 k (fun x h1 h2 => ?_), regb_word mask s 0 32 (fun j hj => ?_)]
    · have b1 : regb mm s 0 = 0 := by
        have := regb_rest (f := mm) 0 0 s (fun x h1 h2 => ?_)
        · rw [Nat.zero_add] at this
          rw [this]
          exact rep_st_zero s
        · show (decide (s ≤ x ∧ x < s + 32) && _) = false
          rw [decide_eq_false (by omega)]
          rfl
      have b2 := rb_st mask 0 32
      have b3 : mask >>> 32 = 0 := by
        apply BitVec.eq_of_toNat_eq
        rw [BitVec.toNat_ushiftRight, Nat.shiftRight_eq_div_pow, Nat.div_eq_of_lt mask.isLt]
        rfl
      rw [b3, x0, zx] at b2
      rw [b1, b2, show s + 32 + k - (s + 32) = k from by omega]
    · show (decide (s ≤ s + j ∧ s + j < s + 32) && mask.getLsbD (s + j - s)) = _
      rw [decide_eq_true (by omega), show s + j - s = j from by omega]
      rfl
    · show (decide (s ≤ x ∧ x < s + 32) && _) = false
      rw [decide_eq_false (by omega)]
      rfl
  rw [a4] at a3
  rw [← a1, ← a2, a3] at he2
  have a5 : rep st (8 * l.length - (s + 32)) (rep st 32 mask) = 0 := by
    have := congrArg (fun z : W32 => regb (bitAt l) (8 * l.length) c ^^^ z) he2
    simp only [← BitVec.xor_assoc, BitVec.xor_self, BitVec.zero_xor] at this
    exact this
  exact hm (rep_st_inj 32 _ (rep_st_inj _ _ a5))
end Go.Proofs.YtpmjpagmddjjaaaDoor
