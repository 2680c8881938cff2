/-
  A shard as plain data, as its 49 cells, as the 64 bytes of a sector; what is read of 64 bytes; that both go back and forth. No condition.
-/
import Derived.Test.YtdhbgfnfbeapcaaDoorKa
import Derived.Test.YtdhbgfnfbeapcaaDoorKb
import Derived.Deep.MidRow
namespace Go.Proofs.YtdhbgfnfbeapcaaDoor
open Go.RowKit
set_option linter.unusedVariables false

theorem le_add : ∀ (k x y : Nat), le k (x + 256 ^ k * y) = le k x
  | 0, _, _ => rfl
  | k + 1, x, y => by
    have h1 : x + 256 ^ (k + 1) * y = x + 256 ^ k * (256 * y) := by rw [Nat.pow_succ, Nat.mul_assoc]
    rw [le, le, h1, le_add k x]
    congr 2
    rw [Nat.add_mul_div_left _ _ (Nat.pow_pos (by decide))]
    apply UInt8.toNat_inj.1
    rw [UInt8.toNat_ofNat', UInt8.toNat_ofNat']
    omega
theorem le_leVal : ∀ (p : List UInt8), le p.length (leVal p) = p := by
  intro p
  obtain ⟨n, hn⟩ : ∃ n, n = p.length := ⟨_, rfl⟩
  induction n generalizing p with
  | zero => rw [List.eq_nil_of_length_eq_zero hn.symm]; rfl
  | succ n ih =>
    obtain ⟨q, u, rfl⟩ : ∃ q u, p = q ++ [u] := ⟨p.dropLast, p.getLast (by rintro rfl; simp at hn), (List.dropLast_concat_getLast _).symm⟩
    have hq : q.length = n := by simp at hn; omega
    have hlt := leVal_lt q
    rw [List.length_append, List.length_singleton, le, leVal_append, le_add, ih q hq.symm, Nat.add_mul_div_left _ _ (Nat.pow_pos (by decide)), Nat.div_eq_of_lt hlt]
    simp [leVal]
theorem le_one (u : UInt8) : le 1 u.toNat = [u] := by simp [le]
theorem leVal_one (u : UInt8) : leVal [u] = u.toNat := by simp [leVal]

/-- 44 bytes. -/
def pad44 (b : List UInt8) : List UInt8 := (List.range 44).map fun j => b.getD j 0
theorem pad44_len (b : List UInt8) : (pad44 b).length = 44 := by simp [pad44]
theorem pad44_eq {b : List UInt8} (h : b.length = 44) : pad44 b = b := by
  apply List.ext_getElem?
  intro i
  by_cases hi : i < 44
  · have : i < b.length := by omega
    simp [pad44, hi, this]
  · rw [List.getElem?_eq_none (by rw [pad44_len]; omega), List.getElem?_eq_none (by omega)]
theorem pad44_nil : pad44 [] = List.replicate 44 0 := rfl

/-- A shard: numbers, and 44 bytes. -/
structure Sh where
  kind : UInt8
  idx : UInt8
  place : Nat
  gen : Nat
  size : Nat
  body : List UInt8
namespace Sh
structure Ok (s : Sh) : Prop where
  place : s.place < 65536
  gen : s.gen < 18446744073709551616
  size : s.size < 65536
  body : s.body.length = 44
def zero : Sh := ⟨0, 0, 0, 0, 0, List.replicate 44 0⟩
theorem zero_ok : zero.Ok := ⟨by decide, by decide, by decide, rfl⟩
/-- As cells. -/
def cs (s : Sh) : List Value := .int .u8 (s.kind.toNat : Int) :: .int .u8 (s.idx.toNat : Int) :: .int .u16 (s.place : Int) :: .int .u64 (s.gen : Int) :: .int .u16 (s.size : Int) :: cells (pad44 s.body)
theorem cs_len (s : Sh) : s.cs.length = 49 := by simp [cs, cells_length, pad44_len]
theorem cs_one (s : Sh) : ∀ v ∈ s.cs, v.oneCell' = true := by
  intro v hv
  simp only [cs, List.mem_cons] at hv
  rcases hv with rfl | rfl | rfl | rfl | rfl | hv
  · rfl
  · rfl
  · rfl
  · rfl
  · rfl
  · exact cells_one _ v hv
def v (s : Sh) : Value := .agg s.cs.toArray
theorem v_zero : zero.v = .agg (Sh.cs ⟨0, 0, 0, 0, 0, []⟩).toArray := rfl
/-- Is it of a kind that is put? -/
def kn (s : Sh) : Bool := decide (1 ≤ s.kind.toNat) && decide (s.kind.toNat ≤ 4)
/-- The 60 bytes ahead of the sum. -/
def head (s : Sh) : List UInt8 := [s.kind, s.idx] ++ le 2 s.place ++ le 8 s.gen ++ le 2 s.size ++ [0, 0] ++ s.body
end Sh
def sumOf (l : List UInt8) : Nat := (more 0 l).toNat
theorem sumOf_lt (l : List UInt8) : sumOf l < 4294967296 := (more 0 l).isLt
def closed (l : List UInt8) : List UInt8 := l ++ le 4 (sumOf l)
def Sh.sector (s : Sh) : List UInt8 := closed s.head
theorem Sh.Ok.head_len {s : Sh} (h : s.Ok) : s.head.length = 60 := by simp [Sh.head, le_length, h.body]
theorem closed_len (l : List UInt8) : (closed l).length = l.length + 4 := by rw [closed, List.length_append, le_length]
theorem Sh.Ok.sector_len {s : Sh} (h : s.Ok) : s.sector.length = 64 := by rw [Sh.sector, closed_len, h.head_len]
/-- What 64 bytes are as a shard. -/
def shardOf (l : List UInt8) : Sh := ⟨l.getD 0 0, l.getD 1 0, leVal ((l.drop 2).take 2), leVal ((l.drop 4).take 8), leVal ((l.drop 12).take 2), (l.drop 16).take 44⟩
/-- The error of what is read. -/
def getE (l : List UInt8) : Nat := if l.length ≠ 64 then 2 else if leVal ((l.drop 60).take 4) ≠ sumOf (l.take 60) then 4 else if (shardOf l).kn = false ∨ leVal ((l.drop 14).take 2) ≠ 0 then 3 else 0
/-- The shard that is read. -/
def getS (l : List UInt8) : Sh := if getE l = 0 then shardOf l else Sh.zero
theorem shardOf_ok {l : List UInt8} (h : l.length = 64) : (shardOf l).Ok := by
  refine ⟨?_, ?_, ?_, by simp [shardOf, h]⟩
  · have := leVal_lt ((l.drop 2).take 2)
    show leVal ((l.drop 2).take 2) < _
    simpa [List.length_take, h] using this
  · have := leVal_lt ((l.drop 4).take 8)
    show leVal ((l.drop 4).take 8) < _
    simpa [List.length_take, h] using this
  · have := leVal_lt ((l.drop 12).take 2)
    show leVal ((l.drop 12).take 2) < _
    simpa [List.length_take, h] using this
theorem getS_ok (l : List UInt8) : (getS l).Ok := by
  unfold getS
  split
  · rename_i h
    refine shardOf_ok ?_
    unfold getE at h
    split at h
    · omega
    · rename_i h1
      simpa using h1
  · exact Sh.zero_ok
theorem getE_len {l : List UInt8} (h : l.length ≠ 64) : getE l = 2 := by rw [getE, if_pos h]
theorem getS_err {l : List UInt8} (h : getE l ≠ 0) : getS l = Sh.zero := by rw [getS, if_neg h]
theorem getS_fine {l : List UInt8} (h : getE l = 0) : getS l = shardOf l := by rw [getS, if_pos h]
theorem getE_sum {l : List UInt8} (h : l.length = 64) (hs : leVal ((l.drop 60).take 4) ≠ sumOf (l.take 60)) : getE l = 4 := by rw [getE, if_neg (by simpa using h), if_pos hs]
theorem getE_form {l : List UInt8} (h : l.length = 64) (hs : leVal ((l.drop 60).take 4) = sumOf (l.take 60)) (hk : (shardOf l).kn = false ∨ leVal ((l.drop 14).take 2) ≠ 0) : getE l = 3 := by rw [getE, if_neg (by simpa using h), if_neg (by simpa using hs), if_pos hk]
theorem getE_fine {l : List UInt8} (h : l.length = 64) (hs : leVal ((l.drop 60).take 4) = sumOf (l.take 60)) (hk : (shardOf l).kn = true) (h0 : leVal ((l.drop 14).take 2) = 0) : getE l = 0 := by
  rw [getE, if_neg (by simpa using h), if_neg (by simpa using hs), if_neg (by rw [hk, h0]; simp)]

/-! There and back. -/
theorem take_of_append {α : Type} {a b : List α} {n : Nat} (h : a.length = n) : (a ++ b).take n = a := by rw [← h, List.take_left']; rfl
theorem drop_of_append {α : Type} {a b : List α} {n : Nat} (h : a.length = n) : (a ++ b).drop n = b := by rw [← h, List.drop_left']; rfl
theorem closed_sum (l : List UInt8) (h : l.length = 60) : leVal (((closed l).drop 60).take 4) = sumOf ((closed l).take 60) := by
  rw [closed, drop_of_append h, take_of_append h, List.take_of_length_le (by rw [le_length]; exact Nat.le_refl _), leVal_le, Nat.mod_eq_of_lt (sumOf_lt l)]
theorem closed_take (l : List UInt8) (h : l.length = 60) : (closed l).take 60 = l := by rw [closed, take_of_append h]
theorem head_at {s : Sh} (h : s.Ok) (t : List UInt8) : shardOf (s.head ++ t) = s ∧ leVal (((s.head ++ t).drop 14).take 2) = 0 := by
  obtain ⟨k, i, p, g, z, b⟩ := s
  obtain ⟨h1, h2, h3, h4⟩ := h
  have e : Sh.head ⟨k, i, p, g, z, b⟩ ++ t = [k, i] ++ (le 2 p ++ (le 8 g ++ (le 2 z ++ ([0, 0] ++ (b ++ t))))) := by simp [Sh.head, List.append_assoc]
  have d2 : ([k, i] ++ (le 2 p ++ (le 8 g ++ (le 2 z ++ ([0, 0] ++ (b ++ t)))))).drop 2 = le 2 p ++ (le 8 g ++ (le 2 z ++ ([0, 0] ++ (b ++ t)))) := rfl
  have d4 : ([k, i] ++ (le 2 p ++ (le 8 g ++ (le 2 z ++ ([0, 0] ++ (b ++ t)))))).drop 4 = le 8 g ++ (le 2 z ++ ([0, 0] ++ (b ++ t))) := by
    rw [show 4 = 2 + 2 from rfl, ← List.drop_drop, d2, drop_of_append (le_length 2 p)]
  have d12 : ([k, i] ++ (le 2 p ++ (le 8 g ++ (le 2 z ++ ([0, 0] ++ (b ++ t)))))).drop 12 = le 2 z ++ ([0, 0] ++ (b ++ t)) := by
    rw [show 12 = 4 + 8 from rfl, ← List.drop_drop, d4, drop_of_append (le_length 8 g)]
  have d14 : ([k, i] ++ (le 2 p ++ (le 8 g ++ (le 2 z ++ ([0, 0] ++ (b ++ t)))))).drop 14 = [0, 0] ++ (b ++ t) := by
    rw [show 14 = 12 + 2 from rfl, ← List.drop_drop, d12, drop_of_append (le_length 2 z)]
  have d16 : ([k, i] ++ (le 2 p ++ (le 8 g ++ (le 2 z ++ ([0, 0] ++ (b ++ t)))))).drop 16 = b ++ t := by
    rw [show 16 = 14 + 2 from rfl, ← List.drop_drop, d14]; rfl
  rw [e]
  refine ⟨?_, by rw [d14]; rfl⟩
  unfold shardOf
  rw [d2, d4, d12, d16, take_of_append (le_length 2 p), take_of_append (le_length 8 g), take_of_append (le_length 2 z), take_of_append h4, leVal_le, leVal_le, leVal_le, Nat.mod_eq_of_lt (by simpa using h1), Nat.mod_eq_of_lt (by simpa using h2), Nat.mod_eq_of_lt (by simpa using h3)]
  rfl
/-- What is put is got. -/
theorem Sh.Ok.get_sector {s : Sh} (h : s.Ok) (hk : s.kn = true) : getE s.sector = 0 ∧ getS s.sector = s := by
  have hh := head_at h (le 4 (sumOf s.head))
  have hl := h.head_len
  have he : getE s.sector = 0 := by
    refine getE_fine h.sector_len (closed_sum _ hl) ?_ hh.2
    show (shardOf (s.head ++ le 4 (sumOf s.head))).kn = true
    rw [hh.1]; exact hk
  refine ⟨he, ?_⟩
  rw [getS_fine he]
  exact hh.1
theorem drop_two {l : List UInt8} {a : Nat} (h : a + 2 ≤ l.length) : (l.drop a).take 2 = [l.getD a 0, l.getD (a + 1) 0] := by
  have h1 : a < l.length := by omega
  have h2 : a + 1 < l.length := by omega
  rw [List.drop_eq_getElem_cons h1, List.take_succ_cons, List.drop_eq_getElem_cons h2, List.take_succ_cons]
  simp [List.getD_eq_getElem?_getD, h1, h2]
/-- What is got is put as the same bytes. -/
theorem sector_shardOf {l : List UInt8} (h : getE l = 0) : (shardOf l).sector = l ∧ (shardOf l).kn = true := by
  have hl : l.length = 64 := by
    rcases Nat.decEq l.length 64 with h' | h'
    · rw [getE_len h'] at h; cases h
    · exact h'
  have hs : leVal ((l.drop 60).take 4) = sumOf (l.take 60) := by
    rcases Nat.decEq (leVal ((l.drop 60).take 4)) (sumOf (l.take 60)) with h' | h'
    · rw [getE_sum hl h'] at h; cases h
    · exact h'
  have hf : ¬ ((shardOf l).kn = false ∨ leVal ((l.drop 14).take 2) ≠ 0) := by
    intro h'
    rw [getE_form hl hs h'] at h; cases h
  have hk : (shardOf l).kn = true := by
    cases hb : (shardOf l).kn
    · exact absurd (.inl hb) hf
    · rfl
  have h0 : leVal ((l.drop 14).take 2) = 0 := Decidable.byContradiction fun h' => hf (.inr h')
  have h14 : (l.drop 14).take 2 = [0, 0] := by
    have := le_leVal ((l.drop 14).take 2)
    rw [h0, List.length_take, List.length_drop, hl] at this
    exact this.symm
  have hlen2 : ∀ a, a + 2 ≤ 64 → ((l.drop a).take 2).length = 2 := fun a ha => by rw [List.length_take, List.length_drop, hl]; omega
  have e2 : ∀ a, a + 2 ≤ 64 → le 2 (leVal ((l.drop a).take 2)) = (l.drop a).take 2 := fun a ha => by
    have := le_leVal ((l.drop a).take 2)
    rwa [hlen2 a ha] at this
  have e8 : le 8 (leVal ((l.drop 4).take 8)) = (l.drop 4).take 8 := by
    have := le_leVal ((l.drop 4).take 8)
    rwa [show ((l.drop 4).take 8).length = 8 by rw [List.length_take, List.length_drop, hl]; rfl] at this
  have e4 : le 4 (leVal ((l.drop 60).take 4)) = (l.drop 60).take 4 := by
    have := le_leVal ((l.drop 60).take 4)
    rwa [show ((l.drop 60).take 4).length = 4 by rw [List.length_take, List.length_drop, hl]; rfl] at this
  have hh : (shardOf l).head = l.take 60 := by
    unfold Sh.head shardOf
    rw [e2 2 (by omega), e2 12 (by omega), e8, ← h14]
    have t2 : [l.getD 0 0, l.getD 1 0] = l.take 2 := by
      have := drop_two (l := l) (a := 0) (by omega)
      rw [List.drop_zero] at this
      exact this.symm
    rw [t2]
    have j : ∀ a b, a + b ≤ 64 → l.take a ++ (l.drop a).take b = l.take (a + b) := fun a b _ => (List.take_add ..).symm
    rw [j 2 2 (by omega), j 4 8 (by omega), j 12 2 (by omega), j 14 2 (by omega), j 16 44 (by omega)]
  refine ⟨?_, hk⟩
  rw [Sh.sector, closed, hh, ← hs, e4]
  have : (l.drop 60).take 4 = l.drop 60 := List.take_of_length_le (by rw [List.length_drop, hl]; exact Nat.le_refl _)
  rw [this, List.take_append_drop]
end Go.Proofs.YtdhbgfnfbeapcaaDoor
