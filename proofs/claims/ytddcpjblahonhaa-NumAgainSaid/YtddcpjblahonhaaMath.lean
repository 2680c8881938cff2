/-
  Plain mathematics of numbers as bytes: bytes the lowest first ('le', 'leVal'). No program, no condition.
-/
import Derived.Laws.BitsAllLaws
import Derived.Laws.Shifts
namespace Go.Proofs.Ytddcpjblahonhaa

/-- The lowest k bytes of x, the lowest first. -/
def le : Nat → Nat → List UInt8
  | 0, _ => []
  | k + 1, x => le k x ++ [UInt8.ofNat (x / 256 ^ k)]
theorem le_length : ∀ k x, (le k x).length = k
  | 0, _ => rfl
  | k + 1, x => by simp [le, le_length k x]

/-- The number of bytes, the lowest first. -/
def leVal : List UInt8 → Nat
  | [] => 0
  | u :: r => u.toNat + 256 * leVal r

theorem leVal_append : ∀ p q, leVal (p ++ q) = leVal p + 256 ^ p.length * leVal q
  | [], q => by simp [leVal]
  | u :: r, q => by
    simp only [List.cons_append, leVal, leVal_append r q, List.length_cons, Nat.pow_succ]
    rw [Nat.mul_add, ← Nat.mul_assoc, Nat.mul_comm 256 (256 ^ r.length)]
    omega
theorem leVal_lt : ∀ p, leVal p < 256 ^ p.length
  | [] => by simp [leVal]
  | u :: r => by
    have h := leVal_lt r
    have hu := u.toNat_lt
    simp only [leVal, List.length_cons, Nat.pow_succ]
    omega
theorem leVal_le : ∀ k x, leVal (le k x) = x % 256 ^ k
  | 0, x => by simp [le, leVal, Nat.mod_one]
  | k + 1, x => by
    rw [le, leVal_append, leVal_le k x, le_length, Nat.pow_succ, Nat.mod_mul]
    simp [leVal, UInt8.toNat_ofNat']

theorem byte_at (x k : Nat) : (x : Int) / 2 ^ (8 * k) % 256 = ((UInt8.ofNat (x / 256 ^ k)).toNat : Int) := by
  rw [UInt8.toNat_ofNat', show (256 : Nat) = 2 ^ 8 from rfl, ← Nat.pow_mul]
  simp

theorem byte_div (x k : Nat) : (((x / 256 ^ k : Nat) : Int) % 256) = ((UInt8.ofNat (x / 256 ^ k)).toNat : Int) := by
  rw [UInt8.toNat_ofNat']
  omega

theorem or_high (p : List UInt8) (u : UInt8) (k : Nat) (hk : p.length = k) (h8 : k < 8) :
    bits .or .u64 ((leVal p : Nat) : Int) (IntKind.u64.wrap (IntKind.u64.wrap (u.toNat : Int) * 2 ^ (8 * k))) = ((leVal (p ++ [u]) : Nat) : Int) := by
  have hp := leVal_lt p
  have hu := u.toNat_lt
  rw [hk] at hp
  have e1 : IntKind.u64.wrap (u.toNat : Int) = (u.toNat : Int) := by rw [IntKind.wrap_u64]; omega
  have hb : u.toNat * 2 ^ (8 * k) < 18446744073709551616 := by
    have : 2 ^ (8 * k) ≤ 2 ^ 56 := Nat.pow_le_pow_right (by omega) (by omega)
    calc u.toNat * 2 ^ (8 * k) ≤ u.toNat * 2 ^ 56 := Nat.mul_le_mul_left _ this
      _ < 18446744073709551616 := by omega
  have e2 : IntKind.u64.wrap ((u.toNat : Int) * 2 ^ (8 * k)) = ((u.toNat * 2 ^ (8 * k) : Nat) : Int) := by
    have : (u.toNat : Int) * 2 ^ (8 * k) = ((u.toNat * 2 ^ (8 * k) : Nat) : Int) := by simp
    rw [this, IntKind.wrap_u64]
    omega
  have hp2 : leVal p < 2 ^ (8 * k) := by rw [Nat.pow_mul]; exact hp
  have hl : leVal p < 18446744073709551616 := by
    have : 2 ^ (8 * k) ≤ 2 ^ 56 := Nat.pow_le_pow_right (by omega) (by omega)
    omega
  rw [e1, e2, u64_or_nat _ _ hl hb, Nat.or_comm, Nat.mul_comm, ← Nat.two_pow_add_eq_or_of_lt hp2, leVal_append, hk]
  simp only [leVal, Nat.mul_zero, Nat.add_zero]
  rw [show (256 : Nat) ^ k = 2 ^ (8 * k) from by rw [Nat.pow_mul]]
  omega

theorem take_one_more {α : Type} (l : List α) (a k : Nat) (u : α) (h : l[a + k]? = some u) : (l.drop a).take (k + 1) = (l.drop a).take k ++ [u] := by
  rw [List.take_add_one, List.getElem?_drop, h]
  rfl
theorem take_length_of {α : Type} (l : List α) (a k n : Nat) (h : l.length = n) (hk : a + k ≤ n) : ((l.drop a).take k).length = k := by
  rw [List.length_take, List.length_drop]
  omega
theorem drop_one_less {α : Type} (l : List α) (a k : Nat) (u : α) (h : l[a]? = some u) : (l.drop a).take (k + 1) = u :: (l.drop (a + 1)).take k := by
  have hlt : a < l.length := by
    rcases Nat.lt_or_ge a l.length with h' | h'
    · exact h'
    · rw [List.getElem?_eq_none h'] at h; cases h
  rw [List.drop_eq_getElem_cons hlt, List.take_succ_cons]
  rw [List.getElem?_eq_getElem hlt] at h
  injection h with h
  rw [h]

/-- What is made of bytes in groups of seven bits, from the i-th on, behind what stands in acc: the number, how many bytes, the error. -/
def vdec (i acc : Nat) : List UInt8 → Nat × Nat × Nat
  | [] => (0, 0, 5)
  | u :: r => if (i = 9 ∧ 1 < u.toNat) ∨ (0 < i ∧ u.toNat = 0) then (0, 0, 3) else if u.toNat < 128 then (acc + u.toNat % 128 * 2 ^ (7 * i), i + 1, 0) else vdec (i + 1) (acc + u.toNat % 128 * 2 ^ (7 * i)) r

/-- What Var answers: the number, the place behind it, the error. -/
def varR (l : List UInt8) (at_ : Int) : Nat × Nat × Nat :=
  if 0 ≤ at_ ∧ at_ ≤ l.length then
    if (vdec 0 0 (l.drop at_.toNat)).2.2 = 0 then ((vdec 0 0 (l.drop at_.toNat)).1, at_.toNat + (vdec 0 0 (l.drop at_.toNat)).2.1, 0) else (0, 0, (vdec 0 0 (l.drop at_.toNat)).2.2)
  else (0, 0, 2)

theorem varR_out (l : List UInt8) (at_ : Int) (h : ¬ (0 ≤ at_ ∧ at_ ≤ l.length)) : varR l at_ = (0, 0, 2) := by rw [varR, if_neg h]
theorem varR_in (l : List UInt8) (a : Nat) (h : a ≤ l.length) (n p e : Nat) (hd : vdec 0 0 (l.drop a) = (n, p, e)) : varR l (a : Int) = if e = 0 then (n, a + p, 0) else (0, 0, e) := by
  rw [varR, if_pos ⟨by omega, by omega⟩, Int.toNat_natCast, hd]

theorem or_seven (acc u i : Nat) (ha : acc < 2 ^ (7 * i)) (hu : u < 128) (h9 : i < 9 ∨ i = 9 ∧ u ≤ 1) :
    bits .or .u64 (acc : Int) (IntKind.u64.wrap ((u : Int) * 2 ^ (7 * i))) = ((acc + u * 2 ^ (7 * i) : Nat) : Int) ∧ acc + u * 2 ^ (7 * i) < 2 ^ (7 * (i + 1)) ∧ acc + u * 2 ^ (7 * i) < 2 ^ 64 := by
  have hs : 2 ^ (7 * (i + 1)) = 128 * 2 ^ (7 * i) := by rw [Nat.mul_add, Nat.pow_add]; omega
  have hm : (u + 1) * 2 ^ (7 * i) ≤ 128 * 2 ^ (7 * i) := Nat.mul_le_mul_right _ (by omega)
  rw [Nat.add_mul, Nat.one_mul] at hm
  have hb : acc + u * 2 ^ (7 * i) < 2 ^ 64 := by
    rcases h9 with h9 | ⟨rfl, h1⟩
    · have : 2 ^ (7 * (i + 1)) ≤ 2 ^ 63 := Nat.pow_le_pow_right (by omega) (by omega)
      omega
    · have : u * 2 ^ (7 * 9) ≤ 1 * 2 ^ (7 * 9) := Nat.mul_le_mul_right _ h1
      omega
  refine ⟨?_, by omega, hb⟩
  have e2 : IntKind.u64.wrap ((u : Int) * 2 ^ (7 * i)) = ((u * 2 ^ (7 * i) : Nat) : Int) := by
    have : (u : Int) * 2 ^ (7 * i) = ((u * 2 ^ (7 * i) : Nat) : Int) := by simp
    rw [this, IntKind.wrap_u64]
    omega
  rw [e2, u64_or_nat _ _ (by omega) (by omega), Nat.or_comm, Nat.mul_comm, ← Nat.two_pow_add_eq_or_of_lt ha]
  omega

theorem or_seven_mod (acc x i : Nat) (ha : acc < 2 ^ (7 * i)) (h9 : i < 9 ∨ i = 9 ∧ x % 128 ≤ 1) :
    bits .or .u64 (acc : Int) (IntKind.u64.wrap ((x : Int) % 128 * 2 ^ (7 * i))) = ((acc + x % 128 * 2 ^ (7 * i) : Nat) : Int) ∧ acc + x % 128 * 2 ^ (7 * i) < 2 ^ (7 * (i + 1)) ∧ acc + x % 128 * 2 ^ (7 * i) < 2 ^ 64 := by
  rw [show ((x : Int) % 128) = ((x % 128 : Nat) : Int) from by omega]
  exact or_seven acc (x % 128) i ha (by omega) h9

theorem add_seven (y x z k : Nat) (hz : z = 2 ^ (7 * k)) (hb : y + x % 128 * 2 ^ (7 * k) < 2 ^ 64) :
    IntKind.u64.wrap ((y : Int) + IntKind.u64.wrap ((z : Int) * ((x : Int) % 128))) = ((y + x % 128 * 2 ^ (7 * k) : Nat) : Int) := by
  rw [show ((x : Int) % 128) = ((x % 128 : Nat) : Int) from by omega, ← Int.natCast_mul, Nat.mul_comm, hz]
  generalize x % 128 * 2 ^ (7 * k) = m at *
  rw [IntKind.wrap_u64, IntKind.wrap_u64]
  omega
theorem mul_seven (z k : Nat) (hz : z = 2 ^ (7 * k)) (hk : k < 9) : IntKind.u64.wrap ((z : Int) * 128) = ((2 ^ (7 * (k + 1)) : Nat) : Int) := by
  have h1 : 2 ^ (7 * (k + 1)) = z * 128 := by rw [hz, Nat.mul_add, Nat.pow_add]
  have h2 : 2 ^ (7 * (k + 1)) ≤ 2 ^ 63 := Nat.pow_le_pow_right (by omega) (by omega)
  rw [h1] at h2 ⊢
  rw [IntKind.wrap_u64]
  omega

/-- A number in groups of seven bits, at most f + 1 of them. -/
def venc : Nat → Nat → List UInt8
  | 0, n => [UInt8.ofNat n]
  | f + 1, n => if n < 128 then [UInt8.ofNat n] else UInt8.ofNat (n % 128 + 128) :: venc f (n / 128)
theorem venc_small (f n : Nat) (h : n < 128) : venc f n = [UInt8.ofNat n] := by
  cases f
  · rfl
  · rw [venc, if_pos h]
theorem venc_more (f n : Nat) (h : ¬ n < 128) : venc (f + 1) n = UInt8.ofNat (n % 128 + 128) :: venc f (n / 128) := by rw [venc, if_neg h]
theorem venc_length : ∀ f n, (venc f n).length ≤ f + 1
  | 0, _ => by simp [venc]
  | f + 1, n => by
    rw [venc]
    split
    · simp
    · simp only [List.length_cons]
      have := venc_length f (n / 128)
      omega
theorem venc_pos (f n : Nat) : 0 < (venc f n).length := by
  cases f
  · simp [venc]
  · rw [venc]
    split <;> simp
end Go.Proofs.Ytddcpjblahonhaa
