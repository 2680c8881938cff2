/-
  Rot as plain data (layer 9): a drive that was written whole, and one sector of it spoilt. No program.
-/
import Derived.Test.YtmlmlmlbdjhfhaaDrb
namespace Go.Proofs.Ytmlmlmlbdjhfhaa
open Go.RowKit Go.Proofs
set_option linter.unusedVariables false

namespace Dv
/-- The first i sectors wait, c in each. -/
def laid (n : Nat) (c : UInt8) (i : Nat) : Dv := ⟨List.replicate n (full 0), List.replicate n false, (List.range i).map fun k => (k, full c), false⟩
def whole (n : Nat) (c : UInt8) : Dv := ⟨List.replicate n (full c), List.replicate n false, [], false⟩
def rotd (n : Nat) (c : UInt8) (p o m : Nat) : Dv := ⟨(List.replicate n (full c)).set p (spoil (full c) o m), (List.replicate n false).set p true, [], false⟩
def rotw (n : Nat) (c : UInt8) (p o m : Nat) : Dv := ⟨(rotd n c p o m).st, (rotd n c p o m).rot, [(p, full c)], false⟩
variable {n p o m i : Nat} {c : UInt8}
theorem laid_zero (n : Nat) (c : UInt8) : laid n c 0 = new n := rfl
theorem laid_n : (laid n c i).n = n := by simp [laid, Dv.n]
theorem laid_writeX (h : i < n) : (laid n c i).writeX (i : Int) (full c) = 0 := by
  have hh : (laid n c i).has (i : Int) := ⟨by omega, by rw [laid_n]; omega⟩
  unfold writeX
  rw [if_neg (by simp [laid]), if_pos ⟨hh, full_length c⟩]
theorem laid_write (h : i < n) : (laid n c i).write (i : Int) (full c) = laid n c (i + 1) := by
  have hh : (laid n c i).has (i : Int) := ⟨by omega, by rw [laid_n]; omega⟩
  unfold write
  rw [if_neg (by simp [laid]), if_pos ⟨hh, full_length c⟩]
  simp [laid, List.range_succ]
theorem lastW_laid : ∀ (k i : Nat), lastW ((List.range k).map fun j => (j, full c)) i = if i < k then some (full c) else none
  | 0, i => rfl
  | k + 1, i => by
    rw [List.range_succ, List.map_append, List.map_singleton, lastW_snoc, lastW_laid k i]
    by_cases h : k = i
    · rw [if_pos h, if_pos (by omega)]
    · rw [if_neg h]
      by_cases h2 : i < k
      · rw [if_pos h2, if_pos (by omega)]
      · rw [if_neg h2, if_neg (by omega)]
theorem ext' {x y : Dv} (h1 : x.st.length = y.st.length) (h2 : ∀ i, i < y.st.length → x.st.getD i [] = y.st.getD i []) (h3 : x.n = y.n) (h4 : ∀ i, i < y.n → x.rot.getD i false = y.rot.getD i false) (h5 : x.wait = y.wait) (h6 : x.gone = y.gone) : x = y := by
  obtain ⟨a, b, d, e⟩ := x
  obtain ⟨a', b', d', e'⟩ := y
  simp only at h5 h6 h1 h2
  subst h5 h6
  have e1 : a = a' := List.ext_getElem h1 fun i g1 g2 => by
    have := h2 i g2
    rwa [List.getD_eq_getElem?_getD, List.getD_eq_getElem?_getD, List.getElem?_eq_getElem g1, List.getElem?_eq_getElem g2] at this
  have e2 : b = b' := List.ext_getElem h3 fun i g1 g2 => by
    have := h4 i g2
    simp only at this
    rwa [List.getD_eq_getElem?_getD, List.getD_eq_getElem?_getD, List.getElem?_eq_getElem g1, List.getElem?_eq_getElem g2] at this
  rw [e1, e2]
theorem laid_flush : (laid n c n).flush1 = whole n c := by
  unfold flush1
  rw [if_neg (by simp [laid])]
  have hl : (laid n c n).st.length = n := by simp [laid]
  refine ext' ?_ (fun i hi => ?_) ?_ (fun i hi => ?_) rfl ?_
  · show ((laid n c n).puts _).st.length = _
    rw [puts_len]
    simp [laid, whole]
  · have hi : i < n := by simpa [whole] using hi
    show ((laid n c n).puts (laid n c n).wait).st.getD i [] = _
    rw [puts_st _ _ _ (by rw [hl]; exact hi)]
    show (lastW ((List.range n).map fun j => (j, full c)) i).getD _ = _
    rw [lastW_laid, if_pos hi]
    simp [whole, hi]
  · show ((laid n c n).puts _).n = _
    rw [puts_n, laid_n]
    simp [whole, Dv.n]
  · have hi : i < n := by simpa [whole, Dv.n] using hi
    show ((laid n c n).puts (laid n c n).wait).rot.getD i false = _
    rw [puts_rot _ _ _ (by simpa [laid] using hi)]
    show (match lastW ((List.range n).map fun j => (j, full c)) i with | some _ => false | none => _) = _
    rw [lastW_laid, if_pos hi]
    simp [whole, hi]
  · show ((laid n c n).puts _).gone = _
    rw [puts_gone]
    rfl
theorem laid_flushX : (laid n c i).flushX = 0 := rfl
theorem whole_n : (whole n c).n = n := by simp [whole, Dv.n]
theorem rotd_n : (rotd n c p o m).n = n := by simp [rotd, Dv.n]
theorem whole_rotX (hp : p < n) (ho : o ≤ 60) (hm : m ≠ 0) : (whole n c).rotX (p : Int) (o : Int) (m : Int) = 0 := by
  unfold rotX
  rw [if_neg (by simp [whole]), if_neg (Decidable.not_not.mpr ⟨⟨by omega, by rw [whole_n]; omega⟩, by omega, by omega, by omega⟩), if_neg]
  simp [whole, hp]
theorem whole_rot (hp : p < n) (ho : o ≤ 60) (hm : m ≠ 0) : (whole n c).rot1 (p : Int) (o : Int) (m : Int) = rotd n c p o m := by
  unfold rot1
  rw [if_pos (whole_rotX hp ho hm)]
  simp [rotAt, whole, rotd, hp]
theorem rotd_rotX (hp : p < n) (ho : o ≤ 60) (hm : m ≠ 0) : (rotd n c p o m).rotX (p : Int) (o : Int) (m : Int) = 91 := by
  unfold rotX
  rw [if_neg (by simp [rotd]), if_neg (Decidable.not_not.mpr ⟨⟨by omega, by rw [rotd_n]; omega⟩, by omega, by omega, by omega⟩), if_pos]
  simp [rotd, hp]
theorem rotd_rot (hp : p < n) (ho : o ≤ 60) (hm : m ≠ 0) : (rotd n c p o m).rot1 (p : Int) (o : Int) (m : Int) = rotd n c p o m := by
  unfold rot1
  rw [if_neg (by rw [rotd_rotX hp ho hm]; decide)]
theorem rotd_rotten (hi : i < n) : (rotd n c p o m).rottenB (i : Int) = decide (i = p) := by
  have hh : (rotd n c p o m).has (i : Int) := ⟨by omega, by rw [rotd_n]; omega⟩
  unfold rottenB
  rw [decide_eq_true (show (rotd n c p o m).gone = false ∧ _ from ⟨rfl, hh⟩), Bool.true_and]
  by_cases h : i = p
  · subst h
    simp [rotd, hi]
  · simp [rotd, hi, h, show ¬ p = i from fun e => h e.symm]
theorem rotd_readX (hi : i < n) : (rotd n c p o m).readX (i : Int) = 0 := by
  have hh : (rotd n c p o m).has (i : Int) := ⟨by omega, by rw [rotd_n]; omega⟩
  unfold readX
  rw [if_neg (by simp [rotd]), if_pos hh]
theorem rotd_readL (hi : i < n) : (rotd n c p o m).readL (i : Int) = if i = p then spoil (full c) o m else full c := by
  have hh : (rotd n c p o m).has (i : Int) := ⟨by omega, by rw [rotd_n]; omega⟩
  unfold readL
  rw [if_neg (by simp [rotd]), if_pos hh]
  show ((List.replicate n (full c)).set p (spoil (full c) o m)).getD (i : Int).toNat [] = _
  by_cases h : i = p
  · subst h
    rw [if_pos rfl]
    simp [hi]
  · rw [if_neg h]
    simp [hi, show ¬ p = i from fun e => h e.symm]
theorem rotd_writeX (hp : p < n) : (rotd n c p o m).writeX (p : Int) (full c) = 0 := by
  have hh : (rotd n c p o m).has (p : Int) := ⟨by omega, by rw [rotd_n]; omega⟩
  unfold writeX
  rw [if_neg (by simp [rotd]), if_pos ⟨hh, full_length c⟩]
theorem rotd_write (hp : p < n) : (rotd n c p o m).write (p : Int) (full c) = rotw n c p o m := by
  have hh : (rotd n c p o m).has (p : Int) := ⟨by omega, by rw [rotd_n]; omega⟩
  unfold write
  rw [if_neg (by simp [rotd]), if_pos ⟨hh, full_length c⟩]
  rfl
theorem rotw_rotten (hp : p < n) : (rotw n c p o m).rottenB (p : Int) = true := by
  have := rotd_rotten (c := c) (o := o) (m := m) (p := p) hp
  rw [decide_eq_true rfl] at this
  exact this
theorem rotw_flushX : (rotw n c p o m).flushX = 0 := rfl
theorem rep_set {α : Type} (n p : Nat) (a : α) : (List.replicate n a).set p a = List.replicate n a := by
  apply List.ext_getElem
  · simp
  · intro i h1 h2
    rw [List.getElem_set]
    split <;> simp
theorem rotw_flush : (rotw n c p o m).flush1 = whole n c := by
  unfold flush1
  rw [if_neg (by simp [rotw])]
  show Dv.mk (((List.replicate n (full c)).set p (spoil (full c) o m)).set p (full c)) (((List.replicate n false).set p true).set p false) [] false = _
  rw [List.set_set, List.set_set, rep_set, rep_set]
  rfl
theorem whole_rotten (hp : p < n) : (whole n c).rottenB (p : Int) = false := by
  unfold rottenB
  simp [whole, hp]
/-- A dead drive, and one in its place. -/
theorem dead_readX (x : Dv) (z : Int) : x.fail.readX z = 90 := rfl
theorem dead_readL (x : Dv) (z : Int) : x.fail.readL z = [] := rfl
theorem dead_writeX (x : Dv) (z : Int) (l : List UInt8) : x.fail.writeX z l = 90 := rfl
theorem dead_write (x : Dv) (z : Int) (l : List UInt8) : x.fail.write z l = x.fail := rfl
theorem dead_gone (x : Dv) : x.fail.gone = true := rfl
theorem dead_replace (x : Dv) : x.fail.replace = new x.n := by simp [replace, fail, Dv.n]
theorem new_readX (hp : p < n) : (new n).readX (p : Int) = 0 := by
  have hh : (new n).has (p : Int) := ⟨by omega, by rw [new_n]; omega⟩
  unfold readX
  rw [if_neg (by simp [new]), if_pos hh]
theorem new_readL (hp : p < n) : (new n).readL (p : Int) = full 0 := by
  have hh : (new n).has (p : Int) := ⟨by omega, by rw [new_n]; omega⟩
  unfold readL
  rw [if_neg (by simp [new]), if_pos hh]
  show (List.replicate n (full 0)).getD (p : Int).toNat [] = _
  simp [hp]
theorem new_rotten (hp : p < n) : (new n).rottenB (p : Int) = false := by
  unfold rottenB
  simp [new, hp]
/-- k of the four bytes are spoilt. -/
def spoilK (c : UInt8) (o m k : Nat) : List UInt8 := (List.range 64).map fun j => if o ≤ j ∧ j < o + k then c ^^^ UInt8.ofNat (m >>> (8 * (j - o))) else c
theorem spoilK_len (k : Nat) : (spoilK c o m k).length = 64 := by simp [spoilK]
theorem spoilK_zero : spoilK c o m 0 = full c := by
  apply List.ext_getElem
  · rw [spoilK_len, full_length]
  · intro i h1 h2
    simp only [spoilK, List.getElem_map, List.getElem_range, full, List.getElem_replicate]
    rw [if_neg (by omega)]
theorem spoilK_at (k : Nat) (h : o + k < 64) : (spoilK c o m k)[o + k]? = some c := by
  rw [List.getElem?_eq_getElem (by rw [spoilK_len]; exact h)]
  simp only [spoilK, List.getElem_map, List.getElem_range]
  rw [if_neg (by omega)]
theorem spoilK_set (k : Nat) (h : o + k < 64) : (spoilK c o m k).set (o + k) (c ^^^ UInt8.ofNat (m >>> (8 * k))) = spoilK c o m (k + 1) := by
  apply List.ext_getElem
  · rw [List.length_set, spoilK_len, spoilK_len]
  · intro i h1 h2
    rw [List.getElem_set]
    simp only [spoilK, List.getElem_map, List.getElem_range]
    by_cases hi : o + k = i
    · rw [if_pos hi, if_pos (by omega), show i - o = k from by omega]
    · rw [if_neg hi]
      by_cases h3 : o ≤ i ∧ i < o + k
      · rw [if_pos h3, if_pos (by omega)]
      · rw [if_neg h3, if_neg (by omega)]
theorem spoilK_four : spoilK c o m 4 = spoil (full c) o m := by
  unfold spoilK spoil
  rw [full_length]
  apply List.map_congr_left
  intro j hj
  have hj : j < 64 := List.mem_range.mp hj
  have : (full c).getD j 0 = c := by
    unfold full
    rw [List.getD_eq_getElem?_getD, List.getElem?_replicate, if_pos hj]
    rfl
  rw [this]
end Dv
theorem byte_at (c : UInt8) (m j : Nat) : bits .xor .u8 (c.toNat : Int) ((m : Int) / 2 ^ (8 * j) % 256) = ((c ^^^ UInt8.ofNat (m >>> (8 * j))).toNat : Int) := by
  rw [← xor_b, UInt8.toNat_ofNat', Nat.shiftRight_eq_div_pow]
  simp
end Go.Proofs.Ytmlmlmlbdjhfhaa
