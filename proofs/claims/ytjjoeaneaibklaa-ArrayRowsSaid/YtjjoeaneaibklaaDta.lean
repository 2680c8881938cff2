/-
  Drives side by side as plain data (layer 10): what becomes of a list of drives, what its calls answer. No program, no condition.
-/
import Derived.Test.YtjjoeaneaibklaaIa
namespace Go.Proofs.Ytjjoeaneaibklaa
open Go.RowKit Go.Proofs
set_option linter.unusedVariables false

/-- The drive of a number. -/
def ofD (xs : List Dv) (z : Int) : Option Dv := if 0 ≤ z then xs[z.toNat]? else none
/-- One drive is turned. -/
def onD (xs : List Dv) (z : Int) (f : Dv → Dv) : List Dv := match ofD xs z with | some x => xs.set z.toNat (f x) | none => xs
/-- What one drive tells. -/
def tellD {α : Type} (xs : List Dv) (z : Int) (g : Dv → α) (e : α) : α := match ofD xs z with | some x => g x | none => e
section
variable {xs : List Dv} {z : Int} {i k t : Nat} {x : Dv} {f : Dv → Dv} {F : Nat → Dv → Dv}
theorem get_lt {α : Type} {l : List α} {i : Nat} {a : α} (h : l[i]? = some a) : i < l.length := (List.getElem?_eq_some_iff.1 h).1
theorem ofD_cases (xs : List Dv) (z : Int) : (∃ (i : Nat) (x : Dv), z = (i : Int) ∧ xs[i]? = some x) ∨ (z < 0 ∨ (xs.length : Int) ≤ z) := by
  by_cases h : 0 ≤ z ∧ z < (xs.length : Int)
  · exact .inl ⟨z.toNat, xs[z.toNat]'(by omega), by omega, List.getElem?_eq_getElem (by omega)⟩
  · exact .inr (by omega)
theorem ofD_yes (h : xs[i]? = some x) : ofD xs (i : Int) = some x := by rw [ofD, if_pos (by omega), Int.toNat_natCast, h]
theorem ofD_no (h : z < 0 ∨ (xs.length : Int) ≤ z) : ofD xs z = none := by
  unfold ofD
  split
  · exact List.getElem?_eq_none (by omega)
  · rfl
theorem onD_yes (h : xs[i]? = some x) : onD xs (i : Int) f = xs.set i (f x) := by rw [onD, ofD_yes h, Int.toNat_natCast]
theorem onD_no (h : z < 0 ∨ (xs.length : Int) ≤ z) : onD xs z f = xs := by rw [onD, ofD_no h]
theorem tellD_yes {α : Type} {g : Dv → α} {e : α} (h : xs[i]? = some x) : tellD xs (i : Int) g e = g x := by rw [tellD, ofD_yes h]
theorem tellD_no {α : Type} {g : Dv → α} {e : α} (h : z < 0 ∨ (xs.length : Int) ≤ z) : tellD xs z g e = e := by rw [tellD, ofD_no h]
theorem onD_len : (onD xs z f).length = xs.length := by
  unfold onD
  split
  · exact List.length_set
  · rfl
theorem onD_ne (h : (k : Int) ≠ z) : (onD xs z f)[k]? = xs[k]? := by
  rcases ofD_cases xs z with ⟨i, x, rfl, hx⟩ | hn
  · rw [onD_yes hx, List.getElem?_set_ne (by omega)]
  · rw [onD_no hn]
/-- The first t of the drives are turned, each in its own way. -/
def upTo (F : Nat → Dv → Dv) (xs : List Dv) (t : Nat) : List Dv := xs.mapIdx fun i x => if i < t then F i x else x
theorem upTo_len : (upTo F xs t).length = xs.length := by simp [upTo]
theorem upTo_at (h : xs[i]? = some x) : (upTo F xs t)[i]? = some (if i < t then F i x else x) := by simp [upTo, h]
theorem upTo_here (h : xs[t]? = some x) : (upTo F xs t)[t]? = some x := by rw [upTo_at h, if_neg (Nat.lt_irrefl _)]
theorem upTo_zero : upTo F xs 0 = xs := by
  apply List.ext_getElem?
  intro i
  rcases Nat.lt_or_ge i xs.length with h | h
  · rw [upTo_at (List.getElem?_eq_getElem h), if_neg (by omega), List.getElem?_eq_getElem h]
  · rw [List.getElem?_eq_none (by rw [upTo_len]; exact h), List.getElem?_eq_none h]
theorem upTo_set (h : xs[t]? = some x) : (upTo F xs t).set t (F t x) = upTo F xs (t + 1) := by
  apply List.ext_getElem?
  intro i
  rw [List.getElem?_set]
  by_cases hi : t = i
  · subst hi
    rw [if_pos rfl, if_pos (by rw [upTo_len]; exact get_lt h), upTo_at h, if_pos (by omega)]
  · rw [if_neg hi]
    rcases Nat.lt_or_ge i xs.length with h1 | h1
    · rw [upTo_at (List.getElem?_eq_getElem h1), upTo_at (List.getElem?_eq_getElem h1)]
      by_cases h2 : i < t
      · rw [if_pos h2, if_pos (by omega)]
      · rw [if_neg h2, if_neg (by omega)]
    · rw [List.getElem?_eq_none (by rw [upTo_len]; exact h1), List.getElem?_eq_none (by rw [upTo_len]; exact h1)]
theorem take_next {α : Type} {l : List α} {t : Nat} {a : α} (h : l[t]? = some a) : l.take (t + 1) = l.take t ++ [a] := by
  rw [List.take_add_one, h]; rfl
/-- Flush: what becomes of them, and how many took it. -/
def flushS (xs : List Dv) (t : Nat) : List Dv := upTo (fun _ x => x.flush1) xs t
def flushA (xs : List Dv) (t : Nat) : List Int := (xs.take t).map Dv.flushX
def flushN (xs : List Dv) (t : Nat) : Nat := (flushA xs t).count 0
/-- How many aren't dead. -/
def goneA (xs : List Dv) (t : Nat) : List Bool := (xs.take t).map Dv.gone
def aliveN (xs : List Dv) (t : Nat) : Nat := (goneA xs t).count false
/-- Crash: what of each is kept. -/
def crashS (xs : List Dv) (kss : List (List Bool)) (t : Nat) : List Dv := upTo (fun i x => x.crash (kss.getD i [])) xs t
/-- PutRow: what becomes of them, what they answer. -/
def putF (rs : List (List UInt8)) (z : Int) (i : Nat) (x : Dv) : Dv := if 0 < (rs.getD i []).length then x.write z (rs.getD i []) else x
def putS (xs : List Dv) (rs : List (List UInt8)) (z : Int) (t : Nat) : List Dv := upTo (putF rs z) xs t
def putG (z : Int) (p : Dv × List UInt8) : Option Int := if 0 < p.2.length then some (p.1.writeX z p.2) else none
def putA (xs : List Dv) (rs : List (List UInt8)) (z : Int) (t : Nat) : List Int := ((xs.zip rs).take t).filterMap (putG z)
def putN (xs : List Dv) (rs : List (List UInt8)) (z : Int) (t : Nat) : Nat := (putA xs rs z t).count 0
def rowL (xs : List Dv) (z : Int) : List (List UInt8) := xs.map (·.readL z)
theorem flushA_next (h : xs[t]? = some x) : flushA xs (t + 1) = flushA xs t ++ [x.flushX] := by rw [flushA, take_next h, List.map_append]; rfl
theorem goneA_next (h : xs[t]? = some x) : goneA xs (t + 1) = goneA xs t ++ [x.gone] := by rw [goneA, take_next h, List.map_append]; rfl
theorem flushN_next (h : xs[t]? = some x) : flushN xs (t + 1) = flushN xs t + (if x.flushX = 0 then 1 else 0) := by
  rw [flushN, flushA_next h, List.count_append, List.count_singleton, flushN]
  by_cases q : x.flushX = 0 <;> simp [q]
theorem aliveN_next (h : xs[t]? = some x) : aliveN xs (t + 1) = aliveN xs t + (if x.gone = false then 1 else 0) := by
  rw [aliveN, goneA_next h, List.count_append, List.count_singleton, aliveN]
  by_cases q : x.gone = false <;> simp [q]
theorem flushA_len (h : t ≤ xs.length) : (flushA xs t).length = t := by rw [flushA, List.length_map, List.length_take]; omega
theorem goneA_len (h : t ≤ xs.length) : (goneA xs t).length = t := by rw [goneA, List.length_map, List.length_take]; omega
theorem zip_at {rs : List (List UInt8)} {r : List UInt8} (h : xs[t]? = some x) (hr : rs[t]? = some r) : (xs.zip rs)[t]? = some (x, r) := by
  rw [List.getElem?_eq_getElem (by rw [List.length_zip]; have := get_lt h; have := get_lt hr; omega), List.getElem_zip]
  obtain ⟨h1, h2⟩ := List.getElem?_eq_some_iff.1 h
  obtain ⟨g1, g2⟩ := List.getElem?_eq_some_iff.1 hr
  rw [h2, g2]
theorem getD_at {α : Type} {l : List α} {d a : α} (h : l[t]? = some a) : l.getD t d = a := by rw [List.getD_eq_getElem?_getD, h]; rfl
theorem putA_yes {rs : List (List UInt8)} {r : List UInt8} {z : Int} (h : xs[t]? = some x) (hr : rs[t]? = some r) (h0 : 0 < r.length) : putA xs rs z (t + 1) = putA xs rs z t ++ [x.writeX z r] := by
  rw [putA, take_next (zip_at h hr), List.filterMap_append]
  simp [putA, putG, h0]
theorem putA_no {rs : List (List UInt8)} {r : List UInt8} {z : Int} (h : xs[t]? = some x) (hr : rs[t]? = some r) (h0 : ¬ 0 < r.length) : putA xs rs z (t + 1) = putA xs rs z t := by
  rw [putA, take_next (zip_at h hr), List.filterMap_append]
  have : putG z (x, r) = none := by rw [putG, if_neg h0]
  simp [putA, this]
theorem putN_next {rs : List (List UInt8)} {r : List UInt8} {z : Int} (h : xs[t]? = some x) (hr : rs[t]? = some r) : putN xs rs z (t + 1) = putN xs rs z t + (if 0 < r.length ∧ x.writeX z r = 0 then 1 else 0) := by
  by_cases h0 : 0 < r.length
  · rw [putN, putA_yes h hr h0, List.count_append, List.count_singleton, putN]
    by_cases q : x.writeX z r = 0 <;> simp [q, h0]
  · rw [putN, putA_no h hr h0, if_neg (fun q => h0 q.1)]
    rfl
theorem putA_len {rs : List (List UInt8)} {z : Int} : (putA xs rs z t).length ≤ t := by
  rw [putA]
  refine Nat.le_trans (List.length_filterMap_le _ _) ?_
  rw [List.length_take]
  omega
theorem putF_yes {rs : List (List UInt8)} {r : List UInt8} {z : Int} (hr : rs[t]? = some r) (h0 : 0 < r.length) : putF rs z t x = x.write z r := by rw [putF, getD_at hr, if_pos h0]
theorem putF_no {rs : List (List UInt8)} {r : List UInt8} {z : Int} (hr : rs[t]? = some r) (h0 : ¬ 0 < r.length) : putF rs z t x = x := by rw [putF, getD_at hr, if_neg h0]
/-- Where a drive isn't turned the rest is as it was. -/
theorem upTo_same (h : xs[t]? = some x) (he : F t x = x) : upTo F xs (t + 1) = upTo F xs t := by
  rw [← upTo_set h, he]
  apply List.ext_getElem?
  intro i
  rw [List.getElem?_set]
  by_cases hi : t = i
  · subst hi
    rw [if_pos rfl, if_pos (by rw [upTo_len]; exact get_lt h), upTo_here h]
  · rw [if_neg hi]
theorem count_le_len {α : Type} [BEq α] (l : List α) (a : α) : l.count a ≤ l.length := List.count_le_length
end
end Go.Proofs.Ytjjoeaneaibklaa
