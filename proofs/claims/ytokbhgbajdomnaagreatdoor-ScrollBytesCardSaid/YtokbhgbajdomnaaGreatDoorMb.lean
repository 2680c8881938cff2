/-
  Layer 12's takes: the page's examples come. Condition: the table reads as the row lists it ('Tz'). And what goes with it below the laws of layer 13. No condition but what each theorem says.
-/
import Derived.Test.YtokbhgbajdomnaaGreatDoorMa
set_option linter.unusedVariables false
namespace Go.Proofs.YtokbhgbajdomnaaGreatDoor
section
open Go.RowKit Go.Proofs
end
section
open Go.RowKit Go.Proofs
def leastD (n : Nat) (f : Nat → Bool) (y : Int) : List Nat := if y < 1 then [] else leastL y.toNat (plc n 0 f false)
theorem least_z (v : Value) (n : Nat) (f : Nat → Bool) (y : Int) (hy : y < 9223372036854775808) (w : World) (h : Mp w v n f) (hN : Tz w) :
  Calls Tryz.prog 92 #[v, .int .i64 y] w (RetNums w (leastD n f y)) := by
 by_cases h1 : y < 1
 ·rw [leastD, if_pos h1]
  exact least_no v y h1 w
 ·rw [leastD, if_neg h1]
  have := least_any v n f y.toNat (by omega) (by omega) w h hN
  rwa [show ((y.toNat : Nat) : Int) = y by omega] at this
end
section
open Go.RowKit Go.Proofs
section
variable {n a m i s : Nat} {f : Nat → Bool}
end
end
section
open Go.RowKit Go.Proofs
theorem cnt_put {n i : Nat} {f : Nat → Bool} (hi : i < n) (hf : f i = false) : cntL n (putB f i true) = cntL n f + 1 := by
 have e1 : plc i 0 (putB f i true) true = plc i 0 f true := plc_congr fun j _ hj => by rw [putB, if_neg (by omega)]
 have e2 : plc n (i + 1) (putB f i true) true = plc n (i + 1) f true := plc_congr fun j hj _ => by rw [putB, if_neg (by omega)]
 rw [cntL, cntL, plc_split (Nat.zero_le i) (Nat.le_of_lt hi), plc_split (f := f) (Nat.zero_le i) (Nat.le_of_lt hi), plc_step_yes hi (by rw [putB, if_pos rfl]), plc_step_no (f := f) hi (by rw [hf]; rfl), e1, e2]
 simp
 omega
theorem free_len {n : Nat} {f : Nat → Bool} : cntL n f + (plc n 0 f false).length = n := plc_both n
theorem leastD_no {n : Nat} {f : Nat → Bool} {y : Int} (h : y < 1 ∨ (n : Int) - (cntL n f : Int) < y) : leastD n f y = [] := by
 unfold leastD
 split
 ·rfl
 ·have := free_len (n := n) (f := f)
  rw [leastL, if_neg (by omega)]
structure Lt12 (n m : Nat) (f0 : Nat → Bool) (l : List Nat) : Prop where
 len : l.length = m
 free : ∀ i, i < m → l.getD i 0 < n ∧ f0 (l.getD i 0) = false
 new : ∀ i, i < m → l.getD i 0 ∉ l.take i
 all : 1 ≤ m → ∀ j, j ≤ l.getD (m - 1) 0 → f0 j = true ∨ j ∈ l
theorem leastD_yes {n : Nat} {f : Nat → Bool} {m : Nat} (h1 : 1 ≤ m) (h : m + cntL n f ≤ n) : Lt12 n m f (leastD n f (m : Int)) := by
 have hfl := free_len (n := n) (f := f)
 have e : leastD n f (m : Int) = (plc n 0 f false).take m := by
  rw [leastD, if_neg (by omega), Int.toNat_natCast, leastL, if_pos (by omega)]
 rw [e]
 have hup := plc_up (n := n) (a := 0) (f := f) (t := false)
 have hmem := fun x => plc_mem (n := n) (a := 0) (f := f) (t := false) (i := x)
 obtain ⟨l, hl⟩ : ∃ l, l = plc n 0 f false := ⟨_, rfl⟩
 rw [← hl] at hup hmem hfl ⊢
 have hlen : (l.take m).length = m := by rw [List.length_take]; omega
 have hget : ∀ i, i < m → (l.take m).getD i 0 = l.getD i 0 := by
  intro i hi
  rw [List.getD_eq_getElem?_getD, List.getElem?_take_of_lt hi, List.getD_eq_getElem?_getD]
 refine ⟨hlen, fun i hi => ?_, fun i hi hm => ?_, fun _ j hj => ?_⟩
 ·rw [hget i hi]
  have := (hmem _).1 (up_mem (l := l) (i := i) (by omega))
  exact ⟨this.2.1, this.2.2⟩
 ·rw [hget i hi] at hm
  obtain ⟨k, hk, e⟩ := up_at hm
  rw [List.length_take, List.length_take] at hk
  have e2 : ((l.take m).take i).getD k 0 = l.getD k 0 := by
   rw [List.getD_eq_getElem?_getD, List.getElem?_take_of_lt (by omega), ← List.getD_eq_getElem?_getD, hget k (by omega)]
  rw [e2] at e
  have := up_lt hup (i := k) (j := i) (by omega) (by omega)
  omega
 ·rw [hget (m - 1) (by omega)] at hj
  have hb := (hmem _).1 (up_mem (l := l) (i := m - 1) (by omega))
  cases hf : f j
  ·right
   obtain ⟨k, hk, e⟩ := up_at ((hmem j).2 ⟨Nat.zero_le _, by omega, hf⟩)
   have hkm : k < m := by
    rcases Nat.lt_or_ge k m with h' | h'
    ·exact h'
    ·have := up_lt hup (i := m - 1) (j := k) hk (by omega)
     omega
   rw [← e, ← hget k hkm]
   exact up_mem (by rw [hlen]; exact hkm)
  ·left; rfl
structure Tk12 (n : Nat) (f0 : Nat → Bool) (l : List Nat) (i : Nat) (f : Nat → Bool) : Prop where
 is : ∀ j, j < n → f j = (f0 j || decide (j ∈ l.take i))
 cnt : cntL n f = cntL n f0 + i
theorem Tk12.next {n m i : Nat} {f0 f : Nat → Bool} {l : List Nat} (h : Tk12 n f0 l i f) (hl : Lt12 n m f0 l) (hi : i < m) : f (l.getD i 0) = false ∧ Tk12 n f0 l (i + 1) (putB f (l.getD i 0) true) := by
 obtain ⟨h1, h2⟩ := hl.free i hi
 have h3 : f (l.getD i 0) = false := by rw [h.is _ h1, h2, decide_eq_false (hl.new i hi)]; rfl
 have hil : i < l.length := by rw [hl.len]; exact hi
 have e : l.take (i + 1) = l.take i ++ [l.getD i 0] := by
  rw [List.getD_eq_getElem?_getD, List.getElem?_eq_getElem hil]
  simp
 refine ⟨h3, fun j hj => ?_, by rw [cnt_put h1 h3, h.cnt]; omega⟩
 rw [putB, e]
 by_cases hjl : j = l.getD i 0
 ·rw [if_pos hjl, decide_eq_true (by rw [hjl]; simp), Bool.or_true]
 ·rw [if_neg hjl, h.is j hj]
  congr 1
  rw [decide_eq_decide]
  constructor
  ·intro hm; exact List.mem_append_left _ hm
  ·intro hm
   rcases List.mem_append.1 hm with h' | h'
   ·exact h'
   ·exact absurd (List.mem_singleton.1 h') hjl
end
section
open Go.RowKit Go.Proofs
section
variable {w w' : World} {X n : Nat} {f : Nat → Bool} {A : Option Addr}
end
end
section
open Go.RowKit Go.Proofs
end
section
open Go.RowKit Go.Proofs
end
section
open Go.RowKit Go.Proofs
end
end Go.Proofs.YtokbhgbajdomnaaGreatDoor
