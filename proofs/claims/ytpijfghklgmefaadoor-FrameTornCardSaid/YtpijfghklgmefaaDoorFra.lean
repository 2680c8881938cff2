/-
  Plain mathematics of texts in pieces: what pieces a text is cut into ('cutN'), what pieces are put together as ('joinF', 'allF'); there and back, a prefix of pieces, a piece of which bits are turned. No program, no condition.
-/
import Derived.Test.YtpijfghklgmefaaDoorKb
import Derived.Test.YtpijfghklgmefaaDoorKd
namespace Go.Proofs.YtpijfghklgmefaaDoor
set_option linter.unusedVariables false

/-- A piece's marks. -/
def mkF (a z : Bool) : UInt8 := (if a then 1 else 0) + (if z then 2 else 0)
/-- Marks and length. -/
def hdF (m : UInt8) (t : List UInt8) : List UInt8 := m :: le 2 t.length
/-- The sum that belongs to a piece. -/
def smF (m : UInt8) (t : List UInt8) (s : W32) : W32 := more (more s (hdF m t)) t
/-- A piece. -/
def pcF (m : UInt8) (t : List UInt8) (s : W32) : List UInt8 := hdF m t ++ le 4 (smF m t s).toNat ++ t
theorem hdF_len (m : UInt8) (t : List UInt8) : (hdF m t).length = 3 := by simp [hdF, le_length]
theorem pcF_len (m : UInt8) (t : List UInt8) (s : W32) : (pcF m t s).length = t.length + 7 := by simp [pcF, hdF_len, le_length]; omega
theorem pcF_drop (m : UInt8) (t : List UInt8) (s : W32) : (pcF m t s).drop 7 = t := by
  have h : (hdF m t ++ le 4 (smF m t s).toNat).length = 7 := by simp [hdF_len, le_length]
  have := List.drop_left (l₁ := hdF m t ++ le 4 (smF m t s).toNat) (l₂ := t)
  rwa [h] at this
theorem pcF_take (m : UInt8) (t : List UInt8) (s : W32) : (pcF m t s).take 3 = hdF m t := by
  have := List.take_left (l₁ := hdF m t) (l₂ := le 4 (smF m t s).toNat ++ t)
  rw [hdF_len] at this
  rw [pcF, List.append_assoc]
  exact this
theorem pcF_first (m : UInt8) (t : List UInt8) (s : W32) : (pcF m t s).getD 0 0 = m := rfl
theorem pcF_mid (m : UInt8) (t : List UInt8) (s : W32) : ((pcF m t s).drop 3).take 4 = le 4 (smF m t s).toNat := by
  have h := List.drop_left (l₁ := hdF m t) (l₂ := le 4 (smF m t s).toNat ++ t)
  rw [hdF_len] at h
  rw [pcF, List.append_assoc, h]
  have h2 := List.take_left (l₁ := le 4 (smF m t s).toNat) (l₂ := t)
  rwa [le_length] at h2
theorem pcF_long (m : UInt8) (t : List UInt8) (s : W32) : ((pcF m t s).drop 1).take 2 = le 2 t.length := by
  have : (pcF m t s).drop 1 = le 2 t.length ++ (le 4 (smF m t s).toNat ++ t) := by simp [pcF, hdF]
  rw [this]
  have h2 := List.take_left (l₁ := le 2 t.length) (l₂ := le 4 (smF m t s).toNat ++ t)
  rwa [le_length] at h2

/-- Has a piece its head, the length that it says, and the marks that it may have? -/
def fmB (p : List UInt8) (a : Bool) : Bool := decide (7 ≤ p.length) && (decide (p.length - 7 = leVal ((p.drop 1).take 2)) && decide (p.getD 0 0 &&& 253 = if a then 1 else 0))
/-- The sum that stands in it. -/
def tdF (p : List UInt8) : W32 := BitVec.ofNat 32 (leVal ((p.drop 3).take 4))
/-- The sum that belongs there. -/
def smP (s : W32) (p : List UInt8) : W32 := more (more s (p.take 3)) (p.drop 7)
/-- Is it a last one? -/
def lsB (p : List UInt8) : Bool := decide (p.getD 0 0 &&& 2 ≠ 0)
/-- What pieces are put together as, behind a text of so many: the text, how many, the error. -/
def joinL : W32 → Bool → List UInt8 → Nat → List (List UInt8) → List UInt8 × Nat × Nat
  | _, _, _, _, [] => ([], 0, 170)
  | s, a, acc, k, p :: r =>
    if fmB p a = false then ([], 0, 3) else if tdF p ≠ smP s p then ([], 0, 4) else if lsB p = true then (acc ++ p.drop 7, k + 1, 0) else joinL (tdF p) false (acc ++ p.drop 7) (k + 1) r
def joinF (l : List (List UInt8)) : List UInt8 × Nat × Nat := joinL 0 true [] 0 l

theorem fmB_pc (a z : Bool) (t : List UInt8) (s : W32) (h : t.length < 65536) : fmB (pcF (mkF a z) t s) a = true := by
  rw [fmB, pcF_len, pcF_long, leVal_le, pcF_first, decide_eq_true (by omega), decide_eq_true (by rw [Nat.mod_eq_of_lt (by omega)]; omega), Bool.true_and, Bool.true_and]
  cases a <;> cases z <;> rfl
theorem tdF_pc (m : UInt8) (t : List UInt8) (s : W32) : tdF (pcF m t s) = smF m t s := by
  rw [tdF, pcF_mid, leVal_le, Nat.mod_eq_of_lt (by have := (smF m t s).isLt; omega)]
  simp
theorem smP_pc (m : UInt8) (t : List UInt8) (s : W32) : smP s (pcF m t s) = smF m t s := by rw [smP, pcF_take, pcF_drop]; rfl
theorem lsB_pc (a z : Bool) (t : List UInt8) (s : W32) : lsB (pcF (mkF a z) t s) = z := by
  rw [lsB, pcF_first]
  cases a <;> cases z <;> rfl

/-- So many pieces of a text, each of so many bytes of it but the last one. -/
def cutN (long : Nat) : Nat → Bool → W32 → List UInt8 → List (List UInt8)
  | 0, _, _, _ => []
  | 1, a, s, b => [pcF (mkF a true) b s]
  | k + 2, a, s, b => pcF (mkF a false) (b.take long) s :: cutN long (k + 1) false (smF (mkF a false) (b.take long) s) (b.drop long)
theorem cutN_len (long : Nat) : ∀ (k : Nat) (a : Bool) (s : W32) (b : List UInt8), (cutN long k a s b).length = k
  | 0, _, _, _ => rfl
  | 1, _, _, _ => rfl
  | k + 2, a, s, b => by rw [cutN, List.length_cons, cutN_len]
theorem cutN_cons (long j : Nat) (a : Bool) (s : W32) (b : List UInt8) (hb : b.length ≤ (j + 1) * long) : cutN long (j + 1) a s b = pcF (mkF a (decide (j = 0))) (b.take long) s :: cutN long j false (smF (mkF a (decide (j = 0))) (b.take long) s) (b.drop long) := by
  cases j with
  | zero => rw [List.take_of_length_le (by simpa using hb)]; rfl
  | succ j => rfl
/-- How many pieces a text has. -/
def manyF (long n : Nat) : Nat := (n - 1) / long + 1
theorem manyF_le {long n : Nat} (h : 0 < long) : n ≤ manyF long n * long := by
  unfold manyF
  rw [Nat.add_mul, Nat.one_mul]
  have := Nat.div_add_mod (n - 1) long
  have := Nat.mod_lt (n - 1) h
  have e : long * ((n - 1) / long) = (n - 1) / long * long := Nat.mul_comm _ _
  omega
theorem manyF_lt {long n i : Nat} (h : 0 < long) (hi : i + 1 < manyF long n) : (i + 1) * long < n := by
  unfold manyF at hi
  have h1 : (i + 1) * long ≤ (n - 1) / long * long := Nat.mul_le_mul_right _ (by omega)
  have h2 := Nat.div_mul_le_self (n - 1) long
  have h3 : 0 < (i + 1) * long := Nat.mul_pos (by omega) h
  omega
def cutF (long : Nat) (b : List UInt8) : List (List UInt8) := cutN long (manyF long b.length) true 0 b

theorem joinL_cut (long : Nat) (hl : long < 65536) : ∀ (k : Nat) (a : Bool) (s : W32) (b acc : List UInt8) (j : Nat) (r : List (List UInt8)), 0 < k → b.length ≤ k * long →
    joinL s a acc j (cutN long k a s b ++ r) = (acc ++ b, j + k, 0)
  | 0, _, _, _, _, _, _, h, _ => absurd h (by omega)
  | 1, a, s, b, acc, j, r, _, hb => by
    show joinL s a acc j (pcF (mkF a true) b s :: r) = _
    rw [joinL, fmB_pc _ _ _ _ (by omega), if_neg (by decide), tdF_pc, smP_pc, if_neg (by simp), lsB_pc, if_pos rfl, pcF_drop]
  | k + 2, a, s, b, acc, j, r, _, hb => by
    rw [cutN, List.cons_append]
    rw [joinL, fmB_pc _ _ _ _ (by rw [List.length_take]; omega), if_neg (by decide), tdF_pc, smP_pc, if_neg (by simp), lsB_pc, if_neg (by decide), pcF_drop]
    have hb2 : b.length ≤ (k + 1) * long + long := by rw [show k + 2 = (k + 1) + 1 from rfl, Nat.add_mul (k + 1) 1, Nat.one_mul] at hb; exact hb
    rw [joinL_cut long hl (k + 1) false _ _ _ _ r (by omega) (by rw [List.length_drop]; omega)]
    rw [List.append_assoc, List.take_append_drop]
    congr 2
    omega
theorem joinF_cut {long : Nat} (h0 : 0 < long) (hl : long < 65536) (b : List UInt8) (r : List (List UInt8)) : joinF (cutF long b ++ r) = (b, manyF long b.length, 0) := by
  rw [joinF, cutF, joinL_cut long hl _ _ _ _ _ _ _ (show 0 < manyF long b.length from Nat.succ_pos _) (manyF_le h0)]
  simp
theorem joinL_torn (long : Nat) (hl : long < 65536) : ∀ (k : Nat) (a : Bool) (s : W32) (b acc : List UInt8) (j m : Nat), m < k → joinL s a acc j ((cutN long k a s b).take m) = ([], 0, 170)
  | _, _, _, _, _, _, 0, _ => by rw [List.take_zero]; rfl
  | 0, _, _, _, _, _, m + 1, h => absurd h (by omega)
  | 1, _, _, _, _, _, m + 1, h => absurd h (by omega)
  | k + 2, a, s, b, acc, j, m + 1, h => by
    rw [cutN, List.take_succ_cons]
    rw [joinL, fmB_pc _ _ _ _ (by rw [List.length_take]; omega), if_neg (by decide), tdF_pc, smP_pc, if_neg (by simp), lsB_pc, if_neg (by decide), pcF_drop]
    exact joinL_torn long hl (k + 1) false _ _ _ _ m (by omega)
/-- Text by text, as long as there is no error. -/
def allL : Nat → List (List UInt8) → List (List UInt8) × Nat
  | 0, _ => ([], 0)
  | f + 1, l => if (joinF l).2.2 ≠ 0 then ([], 0) else ((joinF l).1 :: (allL f (l.drop (joinF l).2.1)).1, (joinF l).2.1 + (allL f (l.drop (joinF l).2.1)).2)
def allF (l : List (List UInt8)) : List (List UInt8) × Nat := allL (l.length + 1) l
theorem joinL_many : ∀ (l : List (List UInt8)) (s : W32) (a : Bool) (acc : List UInt8) (k : Nat), (joinL s a acc k l).2.2 = 0 → k < (joinL s a acc k l).2.1 ∧ (joinL s a acc k l).2.1 ≤ k + l.length
  | [], s, a, acc, k, h => by simp [joinL] at h
  | p :: r, s, a, acc, k, h => by
    rw [joinL] at h ⊢
    split at h
    · simp at h
    · rename_i h1
      rw [if_neg h1]
      split at h
      · simp at h
      · rename_i h2
        rw [if_neg h2]
        split at h
        · rename_i h3
          rw [if_pos h3]
          simp
        · rename_i h3
          rw [if_neg h3]
          have := joinL_many r _ _ _ _ h
          rw [List.length_cons]
          omega
theorem joinF_many {l : List (List UInt8)} (h : (joinF l).2.2 = 0) : 0 < (joinF l).2.1 ∧ (joinF l).2.1 ≤ l.length := by
  have := joinL_many l 0 true [] 0 h
  rwa [Nat.zero_add] at this
/-- What is put together is not longer than the pieces. -/
theorem joinL_len : ∀ (l : List (List UInt8)) (s : W32) (a : Bool) (acc : List UInt8) (k : Nat), (joinL s a acc k l).1.length ≤ acc.length + l.flatten.length
  | [], s, a, acc, k => by simp [joinL]
  | p :: r, s, a, acc, k => by
    rw [joinL]
    rw [List.flatten_cons, List.length_append]
    split
    · simp
    · split
      · simp
      · split
        · simp; omega
        · have := joinL_len r (tdF p) false (acc ++ p.drop 7) (k + 1)
          rw [List.length_append, List.length_drop] at this
          omega
theorem cutF_len (long : Nat) (b : List UInt8) : (cutF long b).length = manyF long b.length := cutN_len _ _ _ _ _
theorem manyF_pos (long n : Nat) : 0 < manyF long n := Nat.succ_pos _
/-- Of texts' pieces, one behind the other, and pieces that are no text's. -/
theorem allL_cut {long : Nat} (h0 : 0 < long) (hl : long < 65536) {r : List (List UInt8)} (hr : (joinF r).2.2 ≠ 0) : ∀ (L : List (List UInt8)) (f : Nat), L.length < f → allL f (L.flatMap (cutF long) ++ r) = (L, (L.flatMap (cutF long)).length)
  | [], f, hf => by
    obtain ⟨g, rfl⟩ : ∃ g, f = g + 1 := ⟨f - 1, by simp at hf; omega⟩
    rw [allL, List.flatMap_nil, List.nil_append, if_pos hr]
    rfl
  | b :: L, f, hf => by
    obtain ⟨g, rfl⟩ : ∃ g, f = g + 1 := ⟨f - 1, by simp at hf; omega⟩
    rw [List.length_cons] at hf
    have e : (b :: L).flatMap (cutF long) ++ r = cutF long b ++ (L.flatMap (cutF long) ++ r) := by rw [List.flatMap_cons, List.append_assoc]
    have hj := joinF_cut h0 hl b (L.flatMap (cutF long) ++ r)
    have hd := List.drop_left (l₁ := cutF long b) (l₂ := L.flatMap (cutF long) ++ r)
    rw [cutF_len] at hd
    rw [allL, e, hj, if_neg (by simp), hd, allL_cut h0 hl hr L g (by omega), List.flatMap_cons, List.length_append, cutF_len]
theorem joinF_torn {long : Nat} (hl : long < 65536) (b : List UInt8) {m : Nat} (h : m < manyF long b.length) : joinF ((cutF long b).take m) = ([], 0, 170) := joinL_torn long hl _ _ _ _ _ _ _ h

/-- A sum gone on with over two texts of one length is the same just where theirs is. -/
theorem more_ne {l L : List UInt8} (hl : L.length = l.length) (h : more 0 L ≠ more 0 l) (s : W32) : more s L ≠ more s l := by
  intro he
  apply h
  unfold more at he ⊢
  have he2 : reg (~~~ s) L = reg (~~~ s) l := by
    have := congrArg (fun x : W32 => ~~~ x) he
    simpa using this
  have a1 := reg_split (~~~ s) L
  have a2 := reg_split (~~~ s) l
  have b1 := reg_split (~~~ (0 : W32)) L
  have b2 := reg_split (~~~ (0 : W32)) l
  rw [hl] at a1 b1
  have e : reg 0 L = reg 0 l := by
    rw [a1, a2] at he2
    have := xor_cancel_right (a := reg 0 L) (b := reg 0 l) (c := rep b8 l.length (~~~ s)) (by rw [BitVec.xor_comm _ (rep b8 l.length (~~~ s)), BitVec.xor_comm (reg 0 l)]; exact he2)
    exact this
  rw [b1, b2, e]
theorem dt17 (l : List UInt8) (i j : Nat) : (l.take (i + j)).drop i = (l.drop i).take j := by rw [List.drop_take, Nat.add_sub_cancel_left]
/-- A piece of which four bytes behind the head were taken with a mask. -/
theorem spoilt_piece (a z : Bool) (t : List UInt8) (s : W32) (ht : t.length < 65536) {k : Nat} (hk : k + 4 ≤ t.length) {mask : W32} (hm : mask ≠ 0) :
    fmB (chg (pcF (mkF a z) t s) (7 + k) (le 4 mask.toNat) 4) a = true ∧ tdF (chg (pcF (mkF a z) t s) (7 + k) (le 4 mask.toNat) 4) ≠ smP s (chg (pcF (mkF a z) t s) (7 + k) (le 4 mask.toNat) 4) := by
  obtain ⟨p, hp⟩ : ∃ p, p = pcF (mkF a z) t s := ⟨_, rfl⟩
  have hpl : p.length = t.length + 7 := by rw [hp, pcF_len]
  have hw := chg_whole p (7 + k) (le 4 mask.toNat) (by rw [le_length]; omega)
  rw [le_length] at hw
  rw [← hp]
  obtain ⟨q, hq⟩ : ∃ q, q = chg p (7 + k) (le 4 mask.toNat) 4 := ⟨_, rfl⟩
  rw [← hq]
  have hql : q.length = p.length := by rw [hq, chg_length]
  have h7 : q.take 7 = p.take 7 := by
    rw [hq, hw, List.take_append_of_le_length (by rw [List.length_take]; omega), List.take_take, Nat.min_eq_left (by omega)]
  have hd : q.drop 7 = chg t k (le 4 mask.toNat) 4 := by
    have hw2 := chg_whole t k (le 4 mask.toNat) (by rw [le_length]; omega)
    rw [le_length] at hw2
    have e : p.drop 7 = t := by rw [hp, pcF_drop]
    rw [hq, hw, hw2, List.drop_append_of_le_length (by rw [List.length_take]; omega), List.drop_take, e]
    rw [show 7 + k - 7 = k from by omega, show 7 + k + 4 = 7 + (k + 4) from by omega, ← List.drop_drop, ← List.drop_drop, e]
  have t3 : q.take 3 = p.take 3 := by
    have := congrArg (List.take 3) h7
    rwa [List.take_take, List.take_take] at this
  have m1 : ∀ i j, i + j ≤ 7 → (q.drop i).take j = (p.drop i).take j := fun i j hij => by
    rw [← dt17 q i j, ← dt17 p i j]
    have := congrArg (List.take (i + j)) h7
    rw [List.take_take, List.take_take, Nat.min_eq_left (by omega)] at this
    rw [this]
  have g0 : q.getD 0 0 = p.getD 0 0 := by
    have := congrArg (fun l : List UInt8 => l.getD 0 0) h7
    simpa [List.getD_eq_getElem?_getD, List.getElem?_take] using this
  constructor
  · have := fmB_pc a z t s ht
    rw [← hp] at this
    unfold fmB at this ⊢
    rw [hql, m1 1 2 (by omega), g0]
    exact this
  · have e1 : tdF q = smF (mkF a z) t s := by
      rw [tdF, m1 3 4 (by omega), ← tdF, hp, tdF_pc]
    have e2 : smP s q = more (more s (hdF (mkF a z) t)) (chg t k (le 4 mask.toNat) 4) := by
      rw [smP, t3, hd, hp, pcF_take]
    rw [e1, e2]
    have hf := (chg_flip t k mask hk).sums (by omega) hm
    exact (more_ne (chg_length _ _ _ _) hf _).symm
/-- Pieces of which one is spoilt. -/
theorem joinL_spoilt (long : Nat) (hl : long < 65536) {k : Nat} {mask : W32} (hm : mask ≠ 0) : ∀ (c : Nat) (a : Bool) (s : W32) (b acc : List UInt8) (j i : Nat) (p : List UInt8), b.length ≤ c * long → (cutN long c a s b)[i]? = some p → 7 + k + 4 ≤ p.length →
    joinL s a acc j ((cutN long c a s b).set i (chg p (7 + k) (le 4 mask.toNat) 4)) = ([], 0, 4)
  | 0, _, _, _, _, _, i, p, _, hp, _ => by simp [cutN] at hp
  | 1, a, s, b, acc, j, 0, p, hb, hp, h7 => by
    rw [cutN, List.getElem?_cons_zero, Option.some.injEq] at hp
    subst hp
    rw [pcF_len] at h7
    have := spoilt_piece a true b s (by omega) (k := k) (by omega) hm
    rw [cutN, List.set_cons_zero, joinL, this.1, if_neg (by decide), if_pos this.2]
  | 1, a, s, b, acc, j, i + 1, p, hb, hp, h7 => by simp [cutN] at hp
  | c + 2, a, s, b, acc, j, 0, p, hb, hp, h7 => by
    rw [cutN, List.getElem?_cons_zero, Option.some.injEq] at hp
    subst hp
    rw [pcF_len] at h7
    have := spoilt_piece a false (b.take long) s (by rw [List.length_take]; omega) (k := k) (by omega) hm
    rw [cutN, List.set_cons_zero, joinL, this.1, if_neg (by decide), if_pos this.2]
  | c + 2, a, s, b, acc, j, i + 1, p, hb, hp, h7 => by
    rw [cutN, List.getElem?_cons_succ] at hp
    have hb2 : b.length ≤ (c + 1) * long + long := by rw [show c + 2 = (c + 1) + 1 from rfl, Nat.add_mul (c + 1) 1, Nat.one_mul] at hb; exact hb
    rw [cutN, List.set_cons_succ]
    rw [joinL, fmB_pc _ _ _ _ (by rw [List.length_take]; omega), if_neg (by decide), tdF_pc, smP_pc, if_neg (by simp), lsB_pc, if_neg (by decide), pcF_drop]
    exact joinL_spoilt long hl hm (c + 1) false _ _ _ _ i p (by rw [List.length_drop]; omega) hp h7
theorem joinF_spoilt {long : Nat} (h0 : 0 < long) (hl : long < 65536) {k : Nat} {mask : W32} (hm : mask ≠ 0) (b : List UInt8) (i : Nat) (p : List UInt8) (hp : (cutF long b)[i]? = some p) (h7 : 7 + k + 4 ≤ p.length) :
    joinF ((cutF long b).set i (chg p (7 + k) (le 4 mask.toNat) 4)) = ([], 0, 4) := joinL_spoilt long hl hm _ _ _ _ _ _ i p (manyF_le h0) hp h7
/-- The pieces of a text up to the i-th, the sum there, the marks. -/
structure CutAt (long k : Nat) (l : List UInt8) (i : Nat) (s : W32) (ps : List (List UInt8)) : Prop where
  len : ps.length = i
  le : i ≤ k
  all : ps ++ cutN long (k - i) (decide (i = 0)) s (l.drop (i * long)) = cutN long k true 0 l
  fit : (l.drop (i * long)).length ≤ (k - i) * long
theorem CutAt.start (long k : Nat) (l : List UInt8) (h : l.length ≤ k * long) : CutAt long k l 0 0 [] := ⟨rfl, Nat.zero_le _, by simp, by simpa using h⟩
theorem CutAt.next {long k : Nat} {l : List UInt8} {i : Nat} {s : W32} {ps : List (List UInt8)} (h : CutAt long k l i s ps) (hi : i < k) :
    CutAt long k l (i + 1) (smF (mkF (decide (i = 0)) (decide (i + 1 = k))) ((l.drop (i * long)).take long) s) (ps ++ [pcF (mkF (decide (i = 0)) (decide (i + 1 = k))) ((l.drop (i * long)).take long) s]) := by
  obtain ⟨j, hj⟩ : ∃ j, k - i = j + 1 := ⟨k - i - 1, by omega⟩
  have ha := h.all
  have hf := h.fit
  rw [hj] at ha hf
  rw [cutN_cons _ _ _ _ _ hf] at ha
  have e1 : decide (j = 0) = decide (i + 1 = k) := decide_eq_decide.2 (by omega)
  have e2 : decide (i + 1 = 0) = false := by simp
  have e3 : k - (i + 1) = j := by omega
  have e4 : (l.drop (i * long)).drop long = l.drop ((i + 1) * long) := by rw [List.drop_drop, Nat.add_mul, Nat.one_mul]
  refine ⟨by rw [List.length_append, h.len]; rfl, hi, ?_, ?_⟩
  · rw [e3, e2, ← e4, List.append_assoc, List.singleton_append, ← e1]
    exact ha
  · rw [e3, ← e4, List.length_drop]
    rw [Nat.add_mul, Nat.one_mul] at hf
    omega
theorem CutAt.done {long k : Nat} {l : List UInt8} {s : W32} {ps : List (List UInt8)} (h : CutAt long k l k s ps) : ps = cutN long k true 0 l := by
  have := h.all
  rw [Nat.sub_self, cutN, List.append_nil] at this
  exact this
end Go.Proofs.YtpijfghklgmefaaDoor
