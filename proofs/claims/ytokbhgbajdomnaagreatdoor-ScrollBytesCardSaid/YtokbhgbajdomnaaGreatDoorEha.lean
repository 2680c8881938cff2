/-
  Layer 15, plain: how many stripes hold a value, and what its stripes are; drives on which values were put, each at places of its own. No program.
-/
import Derived.Test.YtokbhgbajdomnaaGreatDoorPd
import Derived.Test.YtokbhgbajdomnaaGreatDoorNa
set_option linter.unusedVariables false
namespace Go.Proofs.YtokbhgbajdomnaaGreatDoor
open Go.RowKit Go.Proofs
def pieceL (R : Nat) (b : List UInt8) (i : Nat) : List UInt8 := (b.drop (i * R)).take R
theorem piece_len {R i : Nat} {b : List UInt8} : (pieceL R b i).length = min R (b.length - i * R) := by
 rw [pieceL, List.length_take, List.length_drop]
theorem take_piece {R i : Nat} {b : List UInt8} : b.take (i * R) ++ pieceL R b i = b.take ((i + 1) * R) := by
 rw [Nat.add_mul, Nat.one_mul, pieceL, List.take_add]
section
variable {xs : List Dv} {k n N g c : Nat} {ps : List Nat} {b : List UInt8} {G H : Nat → Bool}
structure VOk (k N : Nat) (ps : List Nat) (g : Nat) : Prop where
 k1 : 1 ≤ k
 R : 44 * k < 65536
 Nle : N ≤ 65536
 at_ : ∀ i, i < ps.length → ps.getD i 0 < N
 gle : g + ps.length ≤ 18446744073709551616
 nd : ∀ i j, i < j → j < ps.length → ps.getD i 0 ≠ ps.getD j 0
def putV (k n : Nat) (ps : List Nat) (g : Nat) (b : List UInt8) (xs : List Dv) : Nat → List Dv
 | 0 => xs
 | i + 1 => putAll k n 3 (ps.getD i 0) (g + i) (pieceL (44 * k) b i) (putV k n ps g b xs i)
theorem putV_len : ∀ i, (putV k n ps g b xs i).length = xs.length
 | 0 => rfl
 | i + 1 => by rw [putV, putAll_len, putV_len i]
/-! Drives that fail, whatever numbers are told. -/
def failZ (l : List Int) (xs : List Dv) : Nat → List Dv
 | 0 => xs
 | t + 1 => onD (failZ l xs t) (l.getD t 0) (fun x => x.fail)
def goodZ (l : List Int) (t d : Nat) : Bool := !(l.take t).contains (d : Int)
theorem failZ_len {l : List Int} : ∀ t, (failZ l xs t).length = xs.length
 | 0 => rfl
 | t + 1 => by rw [failZ, onD_len, failZ_len t]
theorem goodZ_next {l : List Int} {t : Nat} (ht : t < l.length) (d : Nat) : goodZ l (t + 1) d = if (d : Int) = l.getD t 0 then false else goodZ l t d := by
 have e : l.take (t + 1) = l.take t ++ [l.getD t 0] := by
  rw [List.getD_eq_getElem?_getD, List.getElem?_eq_getElem ht]
  simp
 rw [goodZ, goodZ, e]
 by_cases h : (d : Int) = l.getD t 0
 ·rw [if_pos h, ← h]; simp
 ·rw [if_neg h, List.contains_eq_mem, List.contains_eq_mem]
  have hp : ((d : Int) ∈ l.take t ++ [l.getD t 0]) = ((d : Int) ∈ l.take t) := propext (by
   rw [List.mem_append, List.mem_singleton]
   exact ⟨fun q => q.elim id (fun q => absurd q h), .inl⟩)
  simp only [hp]
theorem Str.failZ {kd : UInt8} {p : Nat} {l : List Int} (h : Str xs k n N kd p g b (fun _ => true)) : ∀ t, t ≤ l.length → Str (failZ l xs t) k n N kd p g b (goodZ l t)
 | 0, _ => h.congr fun d hd => by simp [goodZ]
 | t + 1, ht => by
  have h1 := Str.failZ (l := l) h t (by omega)
  have hl := h1.len
  rw [YtokbhgbajdomnaaGreatDoor.failZ]
  rcases ofD_cases (YtokbhgbajdomnaaGreatDoor.failZ l xs t) (l.getD t 0) with ⟨i, x, hi, hx⟩ | hz
  ·have hd : i < n := by have := get_lt hx; omega
   rw [hi]
   refine (h1.fail hd).congr fun d _ => ?_
   rw [goodZ_next (by omega), hi]
   by_cases e : d = i
   ·rw [if_pos e, if_pos (by omega)]
   ·rw [if_neg e, if_neg (by omega)]
  ·rw [onD_no hz]
   refine h1.congr fun d hd => ?_
   rw [goodZ_next (by omega), if_neg (by omega)]
theorem failZ_ns {l : List Int} (h : ∀ (d : Nat) (x : Dv), xs[d]? = some x → x.Ok ∧ x.n = N) : ∀ t (d : Nat) (x : Dv), (failZ l xs t)[d]? = some x → x.Ok ∧ x.n = N
 | 0 => h
 | t + 1 => fun d x hx => by
  rw [failZ] at hx
  rcases ofD_cases (failZ l xs t) (l.getD t 0) with ⟨i, y, hi, hy⟩ | hz
  ·rw [hi] at hx
   by_cases e : d = i
   ·subst e
    rw [onD_yes hy, List.getElem?_set_self (get_lt hy)] at hx
    injection hx with hx
    obtain ⟨h1, h2⟩ := failZ_ns h t _ _ hy
    rw [← hx]
    exact ⟨Dv.Ok.fail y, by rw [fail_n]; exact h2⟩
   ·rw [onD_ne (by omega)] at hx
    exact failZ_ns h t d x hx
  ·rw [onD_no hz] at hx
   exact failZ_ns h t d x hx
theorem failZ_wl {l : List Int} (h : Wl c xs) : ∀ t, Wl c (failZ l xs t)
 | 0 => h
 | t + 1 => by rw [failZ]; exact onD_wl (failZ_wl h t) fun x hx => by rw [fail_wait]; exact Nat.zero_le _
theorem cntG_drop {n : Nat} {G : Nat → Bool} {z : Int} : cntG n G ≤ cntG n (fun d => if (d : Int) = z then false else G d) + 1 := by
 induction n with
 | zero => exact Nat.zero_le _
 | succ n ih =>
  have e : ∀ F : Nat → Bool, cntG (n + 1) F = cntG n F + (if F n = true then 1 else 0) := fun F => by
   rw [cntG, List.range_succ, List.countP_append, cntG]
   simp [List.countP_cons]
  rw [e, e]
  by_cases hz : (n : Int) = z
  ·have e2 : cntG n (fun d => if (d : Int) = z then false else G d) = cntG n G := cntG_congr fun d hd => by
    rw [if_neg (by omega)]
   rw [e2, if_pos hz]
   split <;> simp
  ·rw [if_neg hz]
   split <;> omega
theorem cntG_goodZ {n : Nat} {l : List Int} : ∀ t, t ≤ l.length → n ≤ cntG n (goodZ l t) + t
 | 0, _ => by
  rw [cntG_all (fun d _ => by simp [goodZ])]
  exact Nat.le_refl _
 | t + 1, ht => by
  have h1 := cntG_goodZ (n := n) (l := l) t (by omega)
  have h2 : cntG n (goodZ l (t + 1)) = cntG n (fun d => if (d : Int) = l.getD t 0 then false else goodZ l t d) := cntG_congr fun d _ => goodZ_next (by omega) d
  have h3 := cntG_drop (n := n) (G := goodZ l t) (z := l.getD t 0)
  omega
end
/-! Places of a pool. -/
theorem least_yes15 {n m : Nat} {f : Nat → Bool} (h : m + cntL n f ≤ n) : Lt12 n m f (leastD n f (m : Int)) := by
 by_cases hm : m = 0
 ·subst hm
  rw [leastD_no (.inl (by decide))]
  exact ⟨rfl, fun i hi => absurd hi (Nat.not_lt_zero i), fun i hi => absurd hi (Nat.not_lt_zero i), fun h => absurd h (by decide)⟩
 ·exact leastD_yes (by omega) h
theorem least_no15 {n m : Nat} {f : Nat → Bool} (h : n < m + cntL n f) : ((leastD n f (m : Int)).length : Int) < (m : Int) := by
 have hc : cntL n f ≤ n := plc_len_le
 rw [leastD_no (.inr (by omega))]
 simp
 omega
theorem getD_mem15 {l : List Nat} {i : Nat} (hi : i < l.length) : l.getD i 0 ∈ l := by
 rw [List.getD_eq_getElem?_getD, List.getElem?_eq_getElem hi]
 exact List.getElem_mem _
theorem mem_getD15 {l : List Nat} {x : Nat} (h : x ∈ l) : ∃ i, i < l.length ∧ l.getD i 0 = x := by
 obtain ⟨i, hi, e⟩ := List.getElem_of_mem h
 exact ⟨i, hi, by rw [List.getD_eq_getElem?_getD, List.getElem?_eq_getElem hi]; exact e⟩
theorem onL_places {p : Ps} {l : List Nat} {j : Nat} (hj : j < p.n) : onL p (intsOf (placesL p l)) j = decide (j ∈ l) := by
 rw [onL]
 congr 1
 apply propext
 rw [intsOf, placesL]
 simp only [List.mem_map]
 constructor
 ·rintro ⟨_, a, ⟨b, hb, rfl⟩, e⟩
  have : b = j := by omega
  exact this ▸ hb
 ·intro h
  exact ⟨hj, p.a + j, ⟨j, h, rfl⟩, rfl⟩
theorem tk15 {n m : Nat} {f0 : Nat → Bool} {l : List Nat} (hl : Lt12 n m f0 l) : ∀ i, i ≤ m → ∃ f, Tk12 n f0 l i f
 | 0, _ => ⟨f0, ⟨fun j hj => by simp, rfl⟩⟩
 | i + 1, hi => by
  obtain ⟨f, hf⟩ := tk15 hl i (by omega)
  exact ⟨_, (hf.next hl (by omega)).2⟩
theorem takeAll_cnt {p : Ps} {m : Nat} {l : List Nat} (hl : Lt12 p.n m p.f l) : cntL p.n (takeAll p (intsOf (placesL p l))).f = cntL p.n p.f + m := by
 obtain ⟨f, hf⟩ := tk15 hl m (Nat.le_refl _)
 rw [← hf.cnt]
 unfold cntL
 rw [plc_congr (g := f) fun j _ hj => ?_]
 show (p.f j || onL p (intsOf (placesL p l)) j) = f j
 rw [hf.is j hj, onL_places hj, List.take_of_length_le (by rw [hl.len]; exact Nat.le_refl _)]
theorem takeAll_new {p : Ps} {l : List Nat} {j : Nat} (hj : j < p.n) (h : j ∈ l) : (takeAll p (intsOf (placesL p l))).f j = true := by
 show (p.f j || onL p _ j) = true
 rw [onL_places hj, decide_eq_true h, Bool.or_true]
theorem placesL_at {p : Ps} {l : List Nat} {i : Nat} (hi : i < l.length) : (placesL p l).getD i 0 = p.a + l.getD i 0 := by
 rw [placesL, List.getD_eq_getElem?_getD, List.getElem?_map, List.getElem?_eq_getElem hi, List.getD_eq_getElem?_getD, List.getElem?_eq_getElem hi]
 rfl
theorem vok15 {p : Ps} {l : List Nat} {k N m g : Nat} (hl : Lt12 p.n m p.f l) (hk : 1 ≤ k) (hR : 44 * k < 65536) (hN : N ≤ 65536) (ha : p.a + p.n ≤ N) (hg : g + m ≤ 18446744073709551616) : VOk k N (placesL p l) g := by
 have e : (placesL p l).length = m := by rw [placesL, List.length_map, hl.len]
 refine ⟨hk, hR, hN, fun i hi => ?_, by rw [e]; exact hg, fun i j hij hj => ?_⟩
 ·rw [e] at hi
  rw [placesL_at (by rw [hl.len]; exact hi)]
  have := (hl.free i hi).1
  omega
 ·rw [e] at hj
  rw [placesL_at (by rw [hl.len]; omega), placesL_at (by rw [hl.len]; omega)]
  intro h
  have h2 : l.getD j 0 = l.getD i 0 := by omega
  refine hl.new j hj ?_
  rw [h2, List.getD_eq_getElem?_getD, ← List.getElem?_take_of_lt hij, List.getElem?_eq_getElem (by rw [List.length_take, hl.len]; omega)]
  exact List.getElem_mem _
end Go.Proofs.YtokbhgbajdomnaaGreatDoor
