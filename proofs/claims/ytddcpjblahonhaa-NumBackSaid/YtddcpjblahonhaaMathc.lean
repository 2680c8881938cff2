/-
  Plain mathematics of items put one behind the other: what each puts, and what is read of it. No program, no condition.
-/
import Derived.Test.YtddcpjblahonhaaMathb
import Derived.Test.YtddcpjblahonhaaLaw
namespace Go.Proofs.Ytddcpjblahonhaa

/-- An item: its width, its number, its text. -/
structure It where
  wd : Int
  num : Nat
  txt : ByteArray

/-- What an item puts. -/
def It.enc (x : It) : List UInt8 := if 1 ≤ x.wd ∧ x.wd ≤ 8 then le x.wd.toNat x.num else if x.wd = 0 then venc 9 x.num else venc 9 x.txt.size ++ x.txt.data.toList
/-- What items put, one behind the other. -/
def encs (l : List It) : List UInt8 := l.flatMap It.enc

theorem It.enc_length (x : It) : x.enc.length ≤ 10 + x.txt.size := by
  unfold It.enc
  split
  · rw [le_length]; omega
  · split
    · have := venc_length 9 x.num; omega
    · have := venc_length 9 x.txt.size
      have h2 : x.txt.data.toList.length = x.txt.size := by rw [Array.length_toList]; rfl
      rw [List.length_append, h2]
      omega
theorem encs_append (l k : List It) : encs (l ++ k) = encs l ++ encs k := by simp [encs]
theorem encs_one (x : It) : encs [x] = x.enc := by simp [encs]
theorem encs_snoc (l : List It) (i : Nat) (x : It) (h : l[i]? = some x) : encs (l.take (i + 1)) = encs (l.take i) ++ x.enc := by
  rw [List.take_add_one, h, encs_append]
  simp [encs]
theorem encs_split (l : List It) (i : Nat) (x : It) (h : l[i]? = some x) : ∃ r, encs l = encs (l.take i) ++ x.enc ++ r := by
  refine ⟨encs (l.drop (i + 1)), ?_⟩
  rw [← encs_snoc l i x h, ← encs_append, List.take_append_drop]

/-- How much room is left behind the first i texts. -/
def left (l : List It) : Nat → Int
  | 0 => 2000
  | i + 1 => left l i - min ((l[i]?.map fun x => (x.txt.size : Int)).getD 0) 3000
theorem left_le (l : List It) : ∀ i : Nat, left l i ≤ 2000
  | 0 => by simp [left]
  | i + 1 => by
    have := left_le l i
    have h : 0 ≤ (l[i]?.map fun x => (x.txt.size : Int)).getD 0 := by
      cases l[i]? <;> simp
    simp only [left]
    omega
theorem left_ge (l : List It) : ∀ i : Nat, -3000 * (i : Int) ≤ left l i
  | 0 => by simp [left]
  | i + 1 => by
    have := left_ge l i
    simp only [left]
    omega
theorem left_mono (l : List It) (i : Nat) : ∀ k : Nat, left l (i + k) ≤ left l i
  | 0 => Int.le_refl _
  | k + 1 => by
    have := left_mono l i k
    have h : 0 ≤ (l[i + k]?.map fun x => (x.txt.size : Int)).getD 0 := by
      cases l[i + k]? <;> simp
    rw [← Nat.add_assoc]
    simp only [left]
    omega
/-- Where room is left at the end the bytes are few. -/
theorem encs_small (l : List It) : ∀ i : Nat, i ≤ l.length → 0 ≤ left l i → (encs (l.take i)).length ≤ 10 * i + (2000 - left l i).toNat
  | 0, _, _ => by simp [encs]
  | i + 1, h, h0 => by
    have hx : l[i]? = some l[i] := List.getElem?_eq_getElem (by omega)
    have hi : 0 ≤ left l i := Int.le_trans h0 (left_mono l i 1)
    have ih := encs_small l i (by omega) hi
    have he := It.enc_length l[i]
    have hl := left_le l i
    rw [encs_snoc l i _ hx, List.length_append]
    simp only [left, hx, Option.map_some, Option.getD_some] at h0 ⊢
    omega
theorem txt_small (l : List It) (i n : Nat) (x : It) (h : l[i]? = some x) (hi : i < n) (h0 : 0 ≤ left l n) : x.txt.size ≤ 2000 := by
  have h1 : 0 ≤ left l (i + 1) := by
    have := left_mono l (i + 1) (n - (i + 1))
    rw [show i + 1 + (n - (i + 1)) = n from by omega] at this
    omega
  have h2 := left_le l i
  simp only [left, h, Option.map_some, Option.getD_some] at h1
  omega

/-- A number of so many bytes that was put is read. -/
theorem getR_le (p r : List UInt8) (k n : Nat) (h1 : 1 ≤ k) (h8 : k ≤ 8) : getR (p ++ le k n ++ r) (p.length : Nat) (k : Nat) = (n % 256 ^ k, 0) := by
  unfold getR
  rw [if_neg (by simp; omega), if_neg (by simp [le_length]; omega)]
  rw [Int.toNat_natCast, Int.toNat_natCast, List.append_assoc, List.drop_left]
  have : (le k n ++ r).take k = le k n := by
    have h := List.take_left (l₁ := le k n) (l₂ := r)
    rwa [le_length] at h
  rw [this, leVal_le]
/-- A text that was put is read. -/
theorem longR_put (p r t : List UInt8) (h : t.length < 2 ^ 63) : longR (p ++ (venc 9 t.length ++ t) ++ r) (p.length : Nat) (t.length : Nat) = (t, p.length + (venc 9 t.length ++ t).length, 0) := by
  have hv := varR_venc p (t ++ r) t.length (by omega)
  have e : p ++ (venc 9 t.length ++ t) ++ r = p ++ venc 9 t.length ++ (t ++ r) := by simp
  unfold longR
  rw [e, hv]
  rw [if_neg (by simp), if_neg (by show ¬ max ((t.length : Nat) : Int) 0 < ((t.length : Nat) : Int); omega), if_neg (by simp; omega)]
  have hd : (p ++ venc 9 t.length ++ (t ++ r)).drop (p.length + (venc 9 t.length).length) = t ++ r := by
    have h := List.drop_left (l₁ := p ++ venc 9 t.length) (l₂ := t ++ r)
    rwa [List.length_append] at h
  show ((List.drop (p.length + (venc 9 t.length).length) _).take t.length, _, _) = _
  rw [hd, List.take_left, List.length_append, Nat.add_assoc]
end Go.Proofs.Ytddcpjblahonhaa
