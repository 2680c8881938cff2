/-
  The walk of BitmapNil; Least and Run of whatever number. Condition: the table reads as the row lists it ('Tz').
-/
import Derived.Test.YthkflghekgbgcaaDoorEbi
namespace Go.Proofs.YthkflghekgbgcaaDoor
open Go.RowKit Go.Proofs
set_option linter.unusedVariables false

/-- What Least and Run answer, whatever they are handed. -/
def leastD (n : Nat) (f : Nat → Bool) (y : Int) : List Nat := if y < 1 then [] else leastL y.toNat (plc n 0 f false)
def runD12 (n : Nat) (f : Nat → Bool) (z y : Int) : Int := if y < 1 then -1 else runE y.toNat (goesP (runF y.toNat) (0, 0) (plc n z.toNat f false))
theorem least_z (v : Value) (n : Nat) (f : Nat → Bool) (y : Int) (hy : y < 9223372036854775808) (w : World) (h : Mp w v n f) (hN : Tz w) :
    Calls Tryd.prog 20 #[v, .int .i64 y] w (RetNs w (leastD n f y)) := by
  by_cases h1 : y < 1
  · rw [leastD, if_pos h1]
    exact least_no v y h1 w
  · rw [leastD, if_neg h1]
    have := least_any v n f y.toNat (by omega) (by omega) w h hN
    rwa [show ((y.toNat : Nat) : Int) = y by omega] at this
theorem run_z (v : Value) (n : Nat) (f : Nat → Bool) (z y : Int) (hz : z < 9223372036854775808) (w : World) (h : Mp w v n f) (hN : Tz w) :
    Calls Tryd.prog 17 #[v, .int .i64 z, .int .i64 y] w fun e w' => e = .returned (.int .i64 (runD12 n f z y)) ∧ Below w.heap.size w w' := by
  by_cases h1 : y < 1
  · rw [runD12, if_pos h1]
    exact run_no v z y h1 w
  · rw [runD12, if_neg h1]
    have := run_any v n f z y.toNat (by omega) hz w h hN
    rwa [show ((y.toNat : Nat) : Int) = y by omega] at this
theorem least_zero (f : Nat → Bool) (y : Int) : leastD 0 f y = [] := by
  unfold leastD
  split
  · rfl
  · rw [leastL, plc_end (Nat.zero_le _), if_neg (by simp; omega)]
theorem run_zero (f : Nat → Bool) (z y : Int) : runD12 0 f z y = -1 := by
  unfold runD12
  split
  · rfl
  · rw [plc_end (Nat.zero_le _)]
    show (if _ then _ else _) = _
    rw [if_neg (by show ¬ ((y.toNat : Nat) : Int) ≤ ((0 : Nat) : Int) - ((0 : Nat) : Int); omega)]
/-- A Map that isn't there, or that nobody made. -/
def No12 (w : World) (v : Value) : Prop := Mp w v 0 (fun _ => false) ∧ (v = .pointer none ∨ ∃ M, v = .pointer (some ⟨M, 0, none⟩) ∧ w.cell? ⟨M, 0, none⟩ = some (.bool false))
theorem No12.keep {w w' : World} {v : Value} (h : No12 w v) (hb : Below w.heap.size w w') : No12 w' v :=
  ⟨h.1.keep hb, h.2.imp id fun ⟨M, e, hM⟩ => ⟨M, e, (Fr.of_below hb : Fr (fun _ => False) w w').cell_some hM (fun h => h)⟩⟩
theorem No12.copy {w : World} {v : Value} (h : No12 w v) : Calls Tryd.prog 10 #[v] w fun e w' => e = .returned (.pointer none) ∧ w' = w := by
  rcases h.2 with rfl | ⟨M, rfl, hM⟩
  · exact copy_nil w
  · exact copy_zero M w hM
theorem No12.zero (w : World) : No12 (w.alloc (.cells #[.bool false, .int .i64 0, .slice none 0 0] 48)) (.pointer (some ⟨w.heap.size, 0, none⟩)) := by
  have hx := heap_alloc_new w (.cells #[.bool false, .int .i64 0, .slice none 0 0] 48)
  refine ⟨⟨by decide, .inr ⟨w.heap.size, none, 0, 0, [], rfl, by rw [cell_of_row _ _ _ _ _ _ hx]; rfl, by rw [cell_of_row _ _ _ _ _ _ hx]; rfl, Sl.nil _ 1 0 (by decide), ⟨by decide, fun j => by simp, fun i h => absurd h (by omega)⟩⟩⟩, .inr ⟨w.heap.size, rfl, by rw [cell_of_row _ _ _ _ _ _ hx]; rfl⟩⟩

set_option maxRecDepth 20000 in
set_option maxHeartbeats 1600000 in
theorem bitmapNil_walk (x0 x1 : Int) (W : World) (b0 : -9223372036854775808 ≤ x0 ∧ x0 < 9223372036854775808) (b1 : -9223372036854775808 ≤ x1 ∧ x1 < 9223372036854775808) (hN : Tz W) :
    Calls Tryd.prog 6 #[.int .i64 x0, .int .i64 x1] W (SaysTrue W) := by
  have HN := Lib.hid hN
  clear hN
  go_enter Tryd.func6, Tryd.ntmps6
  go_wp2_with fail
  go_loopw [5, 6] (fun m k wr => ∃ (j : Nat) (v : Value), j ≤ 2 ∧ k = .int .i64 (j : Int) ∧ m = v ∧ No12 wr v ∧ Below W.heap.size W wr) (fun _ k _ => 2 - (intOf k).toNat)
  case atStart => exact ⟨0, _, by omega, rfl, rfl, ⟨Mp.nil _ _, .inl rfl⟩, Below.refl _ _⟩
  case round =>
    obtain ⟨j, v, hj, rfl, rfl, hno, hb⟩ := hrel
    by_cases hlt : j < 2
    · have HNo := Lib.hid hno
      have HNr := Lib.hid (HN.out.keep hb)
      have Hb := Lib.hid hb
      have hset := set_stays _ 0 (fun _ => false) x0 true wr hno.1 (by simp [inB] <;> omega)
      have hhas := has_any _ 0 (fun _ => false) x0 wr hno.1
      rw [show (inB 0 x0 && (fun _ : Nat => false) x0.toNat) = false by simp] at hhas
      have hlen := mlen_any _ 0 _ wr hno.1
      rw [show ((0 : Nat) : Int) = 0 from rfl] at hlen
      have hcnt := count_any _ 0 _ wr hno.1 HNr.out
      rw [show ((cntL 0 (fun _ => false) : Nat) : Int) = 0 from rfl] at hcnt
      have hlst := list_any _ 0 _ wr hno.1 HNr.out
      rw [plc_end (Nat.le_refl _)] at hlst
      have hji : (j : Int) < 2 := by omega
      clear hno hb
      go_wp2_with fail
      refine hset.mono ?_; clear hset; rintro e w1 ⟨rfl, hw1⟩
      obtain rfl : wr = w1 := hw1.symm
      go_wp2_with fail
      refine hhas.mono ?_; clear hhas; rintro e w1 ⟨rfl, hw1⟩
      obtain rfl : wr = w1 := hw1.symm
      go_wp2_with fail
      refine hlen.mono ?_; clear hlen; rintro e w1 ⟨rfl, hw1⟩
      obtain rfl : wr = w1 := hw1.symm
      go_wp2_with fail
      refine hcnt.mono ?_; clear hcnt; rintro e w1 ⟨rfl, hw1⟩
      obtain rfl : wr = w1 := hw1.symm
      go_wp2_with fail
      refine hlst.mono ?_; clear hlst; rintro e w2 ⟨A2, c2, rfl, ho2, hb2, -⟩
      have Hb2 := Lib.hid (Hb.out.trans (hb2.mono Hb.out.size))
      have HNo2 := Lib.hid (HNo.out.keep hb2)
      have HN2 := Lib.hid (HN.out.keep Hb2.out)
      clear ho2 hb2
      have hles := least_z _ 0 _ x1 b1.2 w2 HNo2.out.1 HN2.out
      rw [least_zero] at hles
      go_wp2_with fail
      refine hles.mono ?_; clear hles; rintro e w3 ⟨A3, c3, rfl, ho3, hb3, -⟩
      have Hb3 := Lib.hid (Hb2.out.trans (hb3.mono Hb2.out.size))
      have HNo3 := Lib.hid (HNo2.out.keep hb3)
      have HN3 := Lib.hid (HN.out.keep Hb3.out)
      clear ho3 hb3
      have hfirst := first_any _ 0 _ x0 b0.2 w3 HNo3.out.1 HN3.out
      rw [plc_end (Nat.zero_le _), show headZ [] = -1 from rfl] at hfirst
      have hrun := run_z _ 0 _ x0 x1 b0.2 w3 HNo3.out.1 HN3.out
      rw [run_zero] at hrun
      go_wp2_with fail
      refine hfirst.mono ?_; clear hfirst; rintro e w4 ⟨rfl, hw4⟩
      obtain rfl : w3 = w4 := hw4.symm
      go_wp2_with fail
      refine hrun.mono ?_; clear hrun; rintro e w5 ⟨rfl, hb5⟩
      have Hb5 := Lib.hid (Hb3.out.trans (hb5.mono Hb3.out.size))
      have hcopy := (HNo3.out.keep hb5).copy
      clear hb5
      go_wp2_with fail
      refine hcopy.mono ?_; clear hcopy; rintro e w6 ⟨rfl, hw6⟩
      obtain rfl : w5 = w6 := hw6.symm
      go_wp2_with fail
      have hz := No12.zero w5
      have hba : Below w5.heap.size w5 (w5.alloc (.cells #[.bool false, .int .i64 0, .slice none 0 0] 48)) := (Below.refl _ _).alloc (Nat.le_refl _) _
      have Hz := Lib.hid hz
      have Hba := Lib.hid (Hb5.out.trans (hba.mono Hb5.out.size))
      clear hz hba
      go_roundw
      case rel => exact ⟨j + 1, _, by omega, by go_num, rfl, Hz.out, Hba.out⟩
      case measure => simp [intOf]; omega
    · have hji : ¬ (j : Int) < 2 := by omega
      have htk := tk12_at HN.out hb
      have Hb := Lib.hid hb
      clear hno hb
      go_wp2_with fail
      refine htk.mono ?_; clear htk; rintro e w7 ⟨rfl, hb7⟩
      have Hb7 := Lib.hid (Hb.out.trans (hb7.mono Hb.out.size))
      clear hb7
      go_wp2_with fail
      go_ret
      exact ⟨rfl, Hb7.out⟩
end Go.Proofs.YthkflghekgbgcaaDoor
