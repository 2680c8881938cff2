/-
  Layer 12's takes: the page's examples come. Condition: the table reads as the row lists it ('Tz').
-/
import Derived.Test.YthkflghekgbgcaaDoorEbg
import Derived.Test.YthkflghekgbgcaaDoorEbh
namespace Go.Proofs.YthkflghekgbgcaaDoor
open Go.RowKit Go.Proofs
set_option linter.unusedVariables false

/-- Places that were laid in new memory, as the document's list. -/
def fe12 : Nat → Bool := setF 5 (fun _ => false) 1 true
theorem fe12_cnt : cntL 5 fe12 = 1 := by decide
theorem fe12_least : leastL 3 (plc 5 0 fe12 false) = [0, 2, 3] := by decide
theorem fe12_run : runE 2 (goesP (runF 2) (0, 0) (plc 5 0 fe12 false)) = 2 := by decide
theorem fe12_first : headZ (plc 5 1 fe12 false) = 2 := by decide
set_option maxRecDepth 20000 in
set_option maxHeartbeats 1600000 in
theorem tk12_any (w : World) (hN : Tz w) : Calls Tryd.prog 7 #[] w (SaysTrue w) := by
  have hnew := new_yes 5 (by decide) w
  rw [show ((5 : Nat) : Int) = 5 from rfl] at hnew
  have HN := Lib.hid hN
  clear hN
  go_enter Tryd.func7, Tryd.ntmps7
  go_wp2_with fail
  refine hnew.mono ?_; clear hnew; rintro e w1 ⟨M, B, rfl, hp1, hb1, hM, hB⟩
  have hset := set_any M B 5 1 (fun _ => false) true w1 hp1
  rw [show setB 5 (fun _ => false) 1 true = true by decide] at hset
  have Hb1 := Lib.hid hb1
  have HMB := Lib.hid (And.intro hM hB)
  clear hp1 hb1 hM hB
  go_wp2_with fail
  refine hset.mono ?_; clear hset; rintro e w2 ⟨rfl, hp2, hf2⟩
  have hb2 : Below w.heap.size w w2 := Hb1.out.trans (hf2.below Hb1.out.size (fun k hk => by have hk : k = B := hk; have := HMB.out.2; omega))
  have P2 := Lib.hid (show Bp w2 M B 5 fe12 from hp2)
  have Hb2 := Lib.hid hb2
  have HN2 := Lib.hid (HN.out.keep hb2)
  clear hp2 hf2 hb2
  have hhas := has_any _ 5 fe12 1 w2 P2.out.mp
  rw [show (inB 5 1 && fe12 (1 : Int).toNat) = true by decide] at hhas
  have hcnt := count_any _ 5 fe12 w2 P2.out.mp HN2.out
  rw [fe12_cnt] at hcnt
  have hlst := least_any _ 5 fe12 3 (by decide) (by decide) w2 P2.out.mp HN2.out
  rw [fe12_least, show ((3 : Nat) : Int) = 3 from rfl] at hlst
  go_wp2_with fail
  refine hhas.mono ?_; clear hhas; rintro e w3 ⟨rfl, hw3⟩
  obtain rfl : w2 = w3 := hw3.symm
  go_wp2_with fail
  refine hcnt.mono ?_; clear hcnt; rintro e w4 ⟨rfl, hw4⟩
  obtain rfl : w2 = w4 := hw4.symm
  go_wp2_with fail
  refine hlst.mono ?_; clear hlst; rintro e w5 ⟨A5, c5, rfl, ho5, hb5, -⟩
  have Hb5 := Lib.hid (Hb2.out.trans (hb5.mono Hb2.out.size))
  have P5 := Lib.hid (P2.out.later hb5)
  have hba : Below w5.heap.size w5 (w5.alloc (.cells #[.int .i64 0, .int .i64 2, .int .i64 3] 3)) := (Below.refl _ _).alloc (Nat.le_refl _) _
  have hints := rints_any A5 3 c5 [0, 2, 3] (some ⟨w5.heap.size, 0, none⟩) 3 3 [0, 2, 3] (w5.alloc (.cells #[.int .i64 0, .int .i64 2, .int .i64 3] 3)) (ho5.sl.below hba (Nat.le_refl _)) (Sl.made w5 #[.int .i64 0, .int .i64 2, .int .i64 3] 3 1 3 rfl (by decide))
  rw [show decide ([0, 2, 3] = [0, 2, 3]) = true by decide] at hints
  have Hba := Lib.hid (Hb5.out.trans (hba.mono Hb5.out.size))
  have Qv := Lib.hid (P5.out.later hba)
  clear hb5 ho5 hba
  go_wp2_with fail
  refine hints.mono ?_; clear hints; rintro e w6 ⟨rfl, hb6⟩
  have Hb6 := Lib.hid (Hba.out.trans (hb6.mono Hba.out.size))
  have P6 := Lib.hid (Qv.out.later hb6)
  clear hb6
  have hrun := run_any _ 5 fe12 0 2 (by decide) (by decide) w6 P6.out.mp (HN.out.keep Hb6.out)
  rw [show (0 : Int).toNat = 0 from rfl, fe12_run, show ((2 : Nat) : Int) = 2 from rfl] at hrun
  go_wp2_with fail
  refine hrun.mono ?_; clear hrun; rintro e w7 ⟨rfl, hb7⟩
  have Hb7 := Lib.hid (Hb6.out.trans (hb7.mono Hb6.out.size))
  have P7 := Lib.hid (P6.out.later hb7)
  clear hb7
  have hfirst := first_any _ 5 fe12 1 (by decide) w7 P7.out.mp (HN.out.keep Hb7.out)
  rw [show (1 : Int).toNat = 1 from rfl, fe12_first] at hfirst
  have hlen := mlen_any _ 5 fe12 w7 P7.out.mp
  rw [show ((5 : Nat) : Int) = 5 from rfl] at hlen
  have hno := new_no (-1) (by decide) w7
  go_wp2_with fail
  refine hfirst.mono ?_; clear hfirst; rintro e w8 ⟨rfl, hw8⟩
  obtain rfl : w7 = w8 := hw8.symm
  go_wp2_with fail
  refine hlen.mono ?_; clear hlen; rintro e w9 ⟨rfl, hw9⟩
  obtain rfl : w7 = w9 := hw9.symm
  go_wp2_with fail
  refine hno.mono ?_; clear hno; rintro e w10 ⟨rfl, hw10⟩
  obtain rfl : w7 = w10 := hw10.symm
  go_wp2_with fail
  go_ret
  exact ⟨rfl, Hb7.out⟩
theorem tk12_at {w0 w : World} (hN : Tz w0) (hb : Below w0.heap.size w0 w) : Calls Tryd.prog 7 #[] w fun e w' => e = .returned (.bool true) ∧ Below w.heap.size w w' := tk12_any w (hN.keep hb)
end Go.Proofs.YthkflghekgbgcaaDoor
