/-
  A slice of bytes that came in as an argument, as a list of bytes; what Put and Get answer at any arguments. No condition.
-/
import Derived.Test.YtddcpjblahonhaaNumk
import Derived.OpenShut
namespace Go.Proofs.Ytddcpjblahonhaa
open Go.RowKit
set_option linter.unusedVariables false

/-- A slice of integers that came in: nil, or a row of 'cap' cells, the numbers 'zs' (the first 'len' are its elements), each fitting its kind. -/
def IsRow (k : IntKind) (w : World) (a : Option Addr) (len cap : Nat) (zs : List Int) : Prop :=
  (a = none ∧ len = 0 ∧ cap = 0 ∧ zs = []) ∨
  ∃ x, a = some x ∧ len ≤ cap ∧ cap ≤ maxLen ∧ zs.length = cap ∧ (∀ i, i < zs.length → w.cell? (x.add i) = some (.int k (zs.getD i 0))) ∧ ∀ n ∈ zs, (Lit.int k n).wf = true

theorem IsRow.sl {w : World} {a : Option Addr} {len cap : Nat} {zs : List Int} (h : IsRow .u8 w a len cap zs) : ∃ l : List UInt8, Sl w 1 a len cap (cells l) := by
  rcases h with ⟨rfl, rfl, rfl, rfl⟩ | ⟨x, rfl, hl, hm, hz, hc, hw⟩
  · exact ⟨[], Sl.nil w 1 0 (by decide)⟩
  · refine ⟨(zs.take len).map fun n => UInt8.ofNat n.toNat, by rw [cells_length, List.length_map, List.length_take, Nat.mul_one]; omega, hl, hm, fun j u hu => ?_⟩
    have hj : j < len := by
      rcases Nat.lt_or_ge j len with h' | h'
      · exact h'
      · rw [List.getElem?_eq_none (by rw [cells_length, List.length_map, List.length_take]; omega)] at hu
        cases hu
    obtain ⟨b, off, rfl, hcell⟩ := ints_at hc (by omega)
    refine ⟨b, off, rfl, ?_⟩
    have hjz : j < zs.length := by omega
    have hwf := hw zs[j] (List.getElem_mem hjz)
    have hbd := bounds_u8 hwf
    rw [hcell j hjz]
    rw [cells_get _ _ (by rw [List.length_map, List.length_take]; omega)] at hu
    rw [← hu, bv, List.getElem_map, List.getElem_take, List.getD_eq_getElem?_getD, List.getElem?_eq_getElem hjz, Option.getD_some, UInt8.toNat_ofNat']
    congr 2
    omega

/-- How many bytes Put puts. -/
def wid (m : Int) : Nat := if m ≤ 8 then m.toNat else 0

theorem put_any (A : Option Addr) (n c : Nat) (l : List UInt8) (m : Int) (x : Nat) (w : World) (h : Sl w 1 A n c (cells l)) (h47 : n ≤ 140737488355300) (hx : x < 2 ^ 64) :
    Calls Try.prog 9 #[.slice A n c, .int .i64 m, .int .u64 (x : Int)] w (RetBytes w.heap.size w (l ++ le (wid m) x)) := by
  by_cases hm : 1 ≤ m ∧ m ≤ 8
  · obtain ⟨k, rfl⟩ := Int.eq_ofNat_of_zero_le (show 0 ≤ m by omega)
    rw [wid, if_pos hm.2, Int.toNat_natCast]
    exact put_yes A n c l k x w h (by omega) (by omega) (by omega) hx
  · have : wid m = 0 := by unfold wid; split <;> omega
    rw [this, le, List.append_nil]
    exact put_no A n c l m x w h (by omega) hm

theorem rput_wid (A : Option Addr) (n c : Nat) (l : List UInt8) (m : Int) (x : Nat) (w : World) (h : Sl w 1 A n c (cells l)) (h47 : n ≤ 140737488355300) (hx : x < 2 ^ 64) :
    Calls Try.prog 13 #[.slice A n c, .int .i64 m, .int .u64 (x : Int)] w (RetBytes w.heap.size w (l ++ le (wid m) x)) := rput_any A n c l m x w h (by omega) hx

/-- What Get answers. -/
def getR (l : List UInt8) (at_ m : Int) : Nat × Nat :=
  if ¬ (1 ≤ m ∧ m ≤ 8) ∨ ¬ (0 ≤ at_ ∧ at_ ≤ l.length) then (0, 2)
  else if (l.length : Int) - at_ < m then (0, 5) else (leVal ((l.drop at_.toNat).take m.toNat), 0)

theorem get_any (A : Option Addr) (n c : Nat) (l : List UInt8) (at_ m : Int) (w : World) (h : Sl w 1 A n c (cells l)) :
    Calls Try.prog 10 #[.slice A n c, .int .i64 at_, .int .i64 m] w fun e w' => e = .returned (.tuple #[.int .u64 ((getR l at_ m).1 : Nat), .int .i64 ((getR l at_ m).2 : Nat)]) ∧ w = w' := by
  have hl := h.len
  rw [cells_length, Nat.mul_one] at hl
  unfold getR
  rw [hl]
  by_cases hm : 1 ≤ m ∧ m ≤ 8
  · by_cases ha : 0 ≤ at_ ∧ at_ ≤ n
    · rw [if_neg (fun hh => hh.elim (fun x => x hm) (fun x => x ha))]
      obtain ⟨a, rfl⟩ := Int.eq_ofNat_of_zero_le ha.1
      obtain ⟨k, rfl⟩ := Int.eq_ofNat_of_zero_le (show 0 ≤ m by omega)
      by_cases hs : (n : Int) - a < k
      · rw [if_pos hs]
        exact get_short A n c a k w h.lim hm.1 hm.2 (by omega) hs
      · rw [if_neg hs]
        exact get_ok A n c l a k w h (by omega) (by omega) (by omega)
    · rw [if_pos (.inr ha)]
      exact get_place A n c at_ m w h.lim hm.1 hm.2 ha
  · rw [if_pos (.inl hm)]
    exact get_width A n c at_ m w hm

theorem rget_any (A : Option Addr) (n c : Nat) (l : List UInt8) (at_ m : Int) (w : World) (h : Sl w 1 A n c (cells l)) :
    Calls Try.prog 11 #[.slice A n c, .int .i64 at_, .int .i64 m] w fun e w' => e = .returned (.tuple #[.int .u64 ((getR l at_ m).1 : Nat), .int .i64 ((getR l at_ m).2 : Nat)]) ∧ w = w' := by
  have hl := h.len
  rw [cells_length, Nat.mul_one] at hl
  unfold getR
  rw [hl]
  by_cases hbad : ¬ (1 ≤ m ∧ m ≤ 8) ∨ ¬ (0 ≤ at_ ∧ at_ ≤ n)
  · rw [if_pos hbad]
    exact rget_arg A n c at_ m w h.lim hbad
  · rw [if_neg hbad]
    have hm : 1 ≤ m ∧ m ≤ 8 := Decidable.not_not.1 fun h' => hbad (.inl h')
    have ha : 0 ≤ at_ ∧ at_ ≤ n := Decidable.not_not.1 fun h' => hbad (.inr h')
    obtain ⟨a, rfl⟩ := Int.eq_ofNat_of_zero_le ha.1
    obtain ⟨k, rfl⟩ := Int.eq_ofNat_of_zero_le (show 0 ≤ m by omega)
    by_cases hs : (n : Int) - a < k
    · rw [if_pos hs]
      exact rget_short A n c a k w h.lim hm.1 hm.2 (by omega) hs
    · rw [if_neg hs]
      exact rget_ok A n c l a k w h (by omega) (by omega) (by omega)
end Go.Proofs.Ytddcpjblahonhaa
