/-
  Plain mathematics of numbers in groups of seven bits: what is put is read, and what is read and put again are the bytes that were read. No program, no condition.
-/
import Derived.Test.YtddcpjblahonhaaMath
namespace Go.Proofs.Ytddcpjblahonhaa

theorem pow7 (i : Nat) : 2 ^ (7 * (i + 1)) = 128 * 2 ^ (7 * i) := by rw [Nat.mul_add, Nat.pow_add, Nat.mul_comm]

theorem vdec_venc : ∀ (f i acc y : Nat) (r : List UInt8), i + f = 9 → acc + y * 2 ^ (7 * i) < 2 ^ 64 → (i = 0 ∨ y ≠ 0) →
    vdec i acc (venc f y ++ r) = (acc + y * 2 ^ (7 * i), i + (venc f y).length, 0) := by
  intro f
  induction f with
  | zero =>
    intro i acc y r hi hb h0
    obtain rfl : i = 9 := by omega
    have hy : y ≤ 1 := by omega
    have hu : (UInt8.ofNat y).toNat = y := by rw [UInt8.toNat_ofNat']; omega
    rw [venc, List.singleton_append, vdec, hu, if_neg (by omega), if_pos (by omega), Nat.mod_eq_of_lt (by omega)]
    rfl
  | succ f ih =>
    intro i acc y r hi hb h0
    by_cases hy : y < 128
    · have hu : (UInt8.ofNat y).toNat = y := by rw [UInt8.toNat_ofNat']; omega
      rw [venc_small _ _ hy, List.singleton_append, vdec, hu, if_neg (by omega), if_pos hy, Nat.mod_eq_of_lt hy]
      rfl
    · have hu : (UInt8.ofNat (y % 128 + 128)).toNat = y % 128 + 128 := by rw [UInt8.toNat_ofNat']; omega
      have hm : (y % 128 + 128) % 128 = y % 128 := by omega
      have hs : acc + y % 128 * 2 ^ (7 * i) + y / 128 * 2 ^ (7 * (i + 1)) = acc + y * 2 ^ (7 * i) := by
        rw [pow7, ← Nat.mul_assoc, Nat.add_assoc, ← Nat.add_mul]
        congr 2
        omega
      rw [venc_more _ _ hy, List.cons_append, vdec, hu, if_neg (by omega), if_neg (by omega), hm, ih (i + 1) _ (y / 128) r (by omega) (by rw [hs]; exact hb) (by omega), hs]
      simp only [List.length_cons]
      congr 2
      omega

theorem vdec_ok : ∀ (l : List UInt8) (i acc n p : Nat), vdec i acc l = (n, p, 0) → i ≤ 9 → acc < 2 ^ (7 * i) →
    i < p ∧ p ≤ i + l.length ∧ n < 2 ^ 64 ∧ ∃ y, n = acc + y * 2 ^ (7 * i) ∧ venc (9 - i) y = l.take (p - i) ∧ (i = 0 ∨ y ≠ 0) := by
  intro l
  induction l with
  | nil => intro i acc n p h; simp [vdec] at h
  | cons u r ih =>
    intro i acc n p h hi ha
    rw [vdec] at h
    by_cases hbad : (i = 9 ∧ 1 < u.toNat) ∨ (0 < i ∧ u.toNat = 0)
    · rw [if_pos hbad] at h
      simp at h
    rw [if_neg hbad] at h
    have hor := or_seven acc (u.toNat % 128) i ha (by omega) (by omega)
    by_cases hu : u.toNat < 128
    · rw [if_pos hu] at h
      simp only [Prod.mk.injEq] at h
      obtain ⟨rfl, rfl, -⟩ := h
      refine ⟨by omega, by simp, hor.2.2, u.toNat, by rw [Nat.mod_eq_of_lt hu], ?_, by omega⟩
      rw [venc_small _ _ hu, show i + 1 - i = 1 from by omega]
      simp
    · rw [if_neg hu] at h
      have hi9 : i ≠ 9 := by omega
      obtain ⟨h1, h2, h3, y, h4, h5, h6⟩ := ih (i + 1) _ n p h (by omega) hor.2.1
      have hul := u.toNat_lt
      refine ⟨by omega, by simp; omega, h3, u.toNat % 128 + 128 * y, ?_, ?_, by omega⟩
      · rw [h4, pow7, Nat.add_mul, ← Nat.mul_assoc, Nat.mul_comm y 128, Nat.add_assoc]
      · rw [show 9 - i = (9 - (i + 1)) + 1 from by omega, venc_more _ _ (by omega), show (u.toNat % 128 + 128 * y) / 128 = y from by omega, h5, show p - i = (p - (i + 1)) + 1 from by omega, List.take_succ_cons]
        congr 1
        rw [show (u.toNat % 128 + 128 * y) % 128 + 128 = u.toNat from by omega]
        simp

/-- What Var answers where it answers no error. -/
theorem varR_ok {l : List UInt8} {at_ : Int} (h : (varR l at_).2.2 = 0) :
    ∃ a : Nat, at_ = a ∧ a < (varR l at_).2.1 ∧ (varR l at_).2.1 ≤ l.length ∧ (varR l at_).1 < 2 ^ 64 ∧ venc 9 (varR l at_).1 = (l.drop a).take ((varR l at_).2.1 - a) := by
  unfold varR at h ⊢
  by_cases hin : 0 ≤ at_ ∧ at_ ≤ l.length
  · rw [if_pos hin] at h ⊢
    obtain ⟨a, rfl⟩ := Int.eq_ofNat_of_zero_le hin.1
    rw [Int.toNat_natCast] at h ⊢
    by_cases he : (vdec 0 0 (l.drop a)).2.2 = 0
    · rw [if_pos he]
      obtain ⟨h1, h2, h3, y, h4, h5, -⟩ := vdec_ok (l.drop a) 0 0 (vdec 0 0 (l.drop a)).1 (vdec 0 0 (l.drop a)).2.1 (Prod.ext rfl (Prod.ext rfl he)) (by omega) (by omega)
      rw [List.length_drop] at h2
      simp only [Nat.mul_zero, Nat.pow_zero, Nat.mul_one, Nat.zero_add, Nat.sub_zero] at h4 h5
      refine ⟨a, rfl, by show a < a + _; omega, by show a + _ ≤ _; omega, h3, ?_⟩
      show venc 9 (vdec 0 0 (l.drop a)).1 = (l.drop a).take (a + _ - a)
      rw [h4, Nat.add_sub_cancel_left]
      exact h5
    · rw [if_neg he] at h
      exact absurd h he
  · rw [if_neg hin] at h
    simp at h

/-- What Text and Bytes answer: the bytes, the place behind them, the error. -/
def longR (l : List UInt8) (at_ most : Int) : List UInt8 × Nat × Nat :=
  if (varR l at_).2.2 ≠ 0 then ([], 0, (varR l at_).2.2)
  else if max most 0 < ((varR l at_).1 : Int) then ([], 0, 6)
  else if l.length - (varR l at_).2.1 < (varR l at_).1 then ([], 0, 5)
  else ((l.drop (varR l at_).2.1).take (varR l at_).1, (varR l at_).2.1 + (varR l at_).1, 0)

/-- A number that was put is read. -/
theorem varR_venc (p r : List UInt8) (n : Nat) (hn : n < 2 ^ 64) : varR (p ++ venc 9 n ++ r) (p.length : Nat) = (n, p.length + (venc 9 n).length, 0) := by
  have h := vdec_venc 9 0 0 n r rfl (by omega) (.inl rfl)
  simp only [Nat.mul_zero, Nat.pow_zero, Nat.mul_one, Nat.zero_add] at h
  rw [varR_in _ p.length (by simp) n (venc 9 n).length 0 (by rw [List.append_assoc, List.drop_left]; exact h), if_pos rfl]
end Go.Proofs.Ytddcpjblahonhaa
