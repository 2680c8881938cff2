/-
  Contracts of package blob's Count, part, there and below, of a coder that New made and of none; the document's Count. Conditions: bounds.
-/
import Derived.Test.YthmneinejfbheaaGreatDoorEha
import Derived.Test.YthmneinejfbheaaGreatDoorPb
set_option linter.unusedVariables false
set_option maxRecDepth 20000
set_option maxHeartbeats 1600000
namespace Go.Proofs.YthmneinejfbheaaGreatDoor
open Go.RowKit Go.Proofs
def Rm (w : World) (v : Value) (R : Nat) : Prop := (v = .pointer none ∧ R = 0) ∨ ∃ C k m F T, v = .pointer (some ⟨C, 0, none⟩) ∧ R = 44 * k ∧ Cod w C k m F T
theorem Rm.of {w : World} {C k m F T : Nat} (h : Cod w C k m F T) : Rm w (.pointer (some ⟨C, 0, none⟩)) (44 * k) := .inr ⟨C, k, m, F, T, rfl, rfl, h⟩
theorem Rm.nil {w : World} : Rm w (.pointer none) 0 := .inl ⟨rfl, rfl⟩
theorem Rm.lt {w : World} {v : Value} {R : Nat} (h : Rm w v R) : R < 65536 := by
 rcases h with ⟨-, rfl⟩ | ⟨C, k, m, F, T, -, rfl, hc⟩
 ·decide
 ·have := hc.n255; omega
theorem Rm.later {w w' : World} {v : Value} {R : Nat} (h : Rm w v R) (hb : Below w.heap.size w w') : Rm w' v R :=
 h.imp id fun ⟨C, k, m, F, T, h1, h2, h3⟩ => ⟨C, k, m, F, T, h1, h2, h3.later hb⟩
theorem room15 {w : World} {v : Value} {R : Nat} (h : Rm w v R) : Calls Tryz.prog 26 #[v] w fun e w' => e = .returned (.int .i64 (R : Int)) ∧ w' = w := by
 rcases h with ⟨rfl, rfl⟩ | ⟨C, k, m, F, T, rfl, rfl, hc⟩
 ·have hk : Calls Tryz.prog 49 #[.pointer none] w fun e w' => e = .returned (.int .i64 0) ∧ w' = w := by
   go_enter Tryz.func49, Tryz.ntmps49
   go_wp2_with fail
   go_ret
   exact ⟨rfl, rfl⟩
  go_enter Tryz.func26, Tryz.ntmps26
  go_wp2_with fail
  refine hk.mono ?_; clear hk; rintro e w1 ⟨rfl, hw1⟩
  obtain rfl : w = w1 := hw1.symm
  go_wp2_with fail
  go_ret
  exact ⟨rfl, rfl⟩
 ·exact sroom_any hc
def countZ (R : Nat) (z : Int) : Nat := if R = 0 then 0 else countN R z.toNat
theorem countZ_nat {R Z : Nat} (hR : 0 < R) : countZ R (Z : Int) = countN R Z := by rw [countZ, if_neg (by omega), Int.toNat_natCast]
theorem step_quo15 {ρ : Operand → Value} {o : Oper} {x y : Operand} {w : World} {a b c : Int} {t u : TypeId} (ho : o.op = .binOp .quo t x y u) (hx : ρ x = .int .i64 a) (hy : ρ y = .int .i64 b) (hb : ¬ b = 0) (hw : IntKind.i64.wrap (a.tdiv b) = c) : (execOp ρ o).run Tryz.prog w = .ok (.value (.int .i64 c)) w := by
 subst hw
 unfold execOp
 simp [ho, hx, hy, hb, go_sem]
theorem count15 {w : World} {v : Value} {R : Nat} (h : Rm w v R) (z : Int) (h1 : -9223372036854775808 ≤ z) (h2 : z < 9223372036854775808) :
  Calls Tryz.prog 12 #[v, .int .i64 z] w fun e w' => e = .returned (.int .i64 (countZ R z : Nat)) ∧ w' = w := by
 have hr := room15 h
 have hlt := h.lt
 clear h
 by_cases c1 : z ≤ 0
 ·rw [show countZ R z = 0 by unfold countZ; split; rfl; rw [show z.toNat = 0 by omega]; rfl]
  go_enter Tryz.func12, Tryz.ntmps12
  go_wp2_with fail
  refine hr.mono ?_; clear hr; rintro e w1 ⟨rfl, hw1⟩
  obtain rfl : w = w1 := hw1.symm
  go_wp2_with fail
  go_ret
  exact ⟨rfl, rfl⟩
 by_cases c2 : R = 0
 ·subst c2
  rw [show countZ 0 z = 0 from rfl]
  go_enter Tryz.func12, Tryz.ntmps12
  go_wp2_with fail
  refine hr.mono ?_; clear hr; rintro e w1 ⟨rfl, hw1⟩
  obtain rfl : w = w1 := hw1.symm
  go_wp2_with fail
  go_ret
  exact ⟨rfl, rfl⟩
 ·have hRi : ¬ (R : Int) = 0 := by omega
  obtain ⟨q, hqq, hle⟩ : ∃ q : Nat, (z - 1).tdiv (R : Int) = (q : Int) ∧ (q : Int) ≤ z - 1 ∧ countZ R z = q + 1 := by
   refine ⟨(z.toNat - 1) / R, ?_, ?_, ?_⟩
   ·rw [show z - 1 = ((z.toNat - 1 : Nat) : Int) by omega]; rfl
   ·have := Nat.div_le_self (z.toNat - 1) R; omega
   ·rw [countZ, if_neg c2, countN, if_neg (by omega)]
  rw [hle.2]
  have hle := hle.1
  have HQ := qH hqq
  have HRi := qH hRi
  have hRb : ((R : Int) == 0) = false := by simpa using hRi
  have c1b : decide (z ≤ 0) = false := by simpa using c1
  clear hqq hRi
  go_enter Tryz.func12, Tryz.ntmps12
  go_wp2_with fail
  refine hr.mono ?_; clear hr; rintro e w1 ⟨rfl, hw1⟩
  obtain rfl : w = w1 := hw1.symm
  go_wp2_with (refine at_dst11 (d := 17) ?_; refine wpList_step11 (o := ⟨some 17, _, _, _, _, _⟩) rfl (.int .i64 (q : Int)) w (step_quo15 (a := z - 1) (b := (R : Int)) (x := .tmp 15) (y := .tmp 16) rfl rfl rfl HRi.out (by rw [HQ.out, IntKind.wrap_i64]; omega)) ?_)
  go_ret
  exact ⟨rfl, rfl⟩
theorem part15 {w : World} {v : Value} {R : Nat} (h : Rm w v R) (Z i : Nat) (hZ : Z ≤ 400) (hi : i ≤ 400) :
  Calls Tryz.prog 36 #[v, .int .i64 (Z : Int), .int .i64 (i : Int)] w fun e w' => e = .returned (.tuple #[.int .i64 ((i * R : Nat) : Int), .int .i64 ((min ((i + 1) * R) Z : Nat) : Int)]) ∧ w' = w := by
 have hr := room15 h
 have hlt := h.lt
 clear h
 have hm : (i + 1) * R ≤ 401 * 65536 := Nat.mul_le_mul (by omega) (by omega)
 have hm2 : i * R ≤ (i + 1) * R := Nat.mul_le_mul_right _ (by omega)
 have e1 : (i : Int) * (R : Int) = ((i * R : Nat) : Int) := by simp
 have e2 : ((i : Int) + 1) * (R : Int) = (((i + 1) * R : Nat) : Int) := by simp
 obtain ⟨q1, hq1⟩ : ∃ q, q = i * R := ⟨_, rfl⟩
 obtain ⟨q2, hq2⟩ : ∃ q, q = (i + 1) * R := ⟨_, rfl⟩
 rw [← hq1] at e1 hm2 ⊢
 rw [← hq2] at e2 hm2 hm ⊢
 have hw1 : wrap64 ((i : Int) * (R : Int)) = (q1 : Int) := by rw [e1]; unfold wrap64; omega
 have hw2 : wrap64 (((i : Int) + 1) * (R : Int)) = (q2 : Int) := by rw [e2]; unfold wrap64; omega
 clear e1 e2 hq1 hq2
 go_enter Tryz.func36, Tryz.ntmps36
 go_wp2_with fail
 refine hr.mono ?_; clear hr; rintro e w1 ⟨rfl, hwq⟩
 obtain rfl : w = w1 := hwq.symm
 go_wp2_with fail
 all_goals
  go_ret2
  refine ⟨?_, rfl⟩
  first | (rw [Nat.min_eq_left (by omega)]; rfl) | (rw [Nat.min_eq_right (by omega)]; rfl)
theorem rcount15 (k : Nat) (h1 : 1 ≤ k) (h2 : k ≤ 255) (z : Int) (hz1 : -9223372036854775808 ≤ z) (hz2 : z < 9223372036854775808) (w : World) :
  Calls Tryz.prog 13 #[.int .i64 (k : Int), .int .i64 z] w fun e w' => e = .returned (.int .i64 (countN (44 * k) z.toNat : Nat)) ∧ w' = w := by
 obtain ⟨c, hc⟩ : ∃ c, c = countN (44 * k) z.toNat := ⟨_, rfl⟩
 rw [← hc]
 have hcz : c ≤ z.toNat := by
  rw [hc, countN]
  split
  ·omega
  ·have : (z.toNat - 1) / (44 * k) ≤ z.toNat - 1 := Nat.div_le_self _ _
   omega
 have HC := qH hc
 clear hc
 have hw : wrap64 (44 * (k : Int)) = 44 * (k : Int) := by unfold wrap64; omega
 go_enter Tryz.func13, Tryz.ntmps13
 go_wp2_with fail
 go_loopw [5, 6] (fun n l wr => ∃ (j : Nat) (y : Int), n = .int .i64 (j : Int) ∧ l = .int .i64 y ∧ -9223372036854775808 ≤ y ∧ y ≤ z ∧ j + countN (44 * k) y.toNat = c ∧ wr = w) (fun n l _ => (intOf l).toNat)
 case atStart => exact ⟨0, z, rfl, rfl, hz1, Int.le_refl _, by rw [HC.out]; omega, rfl⟩
 case round =>
  obtain ⟨j, y, rfl, rfl, hy1, hy2, hj, hwr⟩ := hrel
  obtain rfl : w = wr := hwr.symm
  by_cases hy : 0 < y
  ·have hs := countN_step (R := 44 * k) (z := y.toNat) (by omega) (by omega)
   rw [show y.toNat - 44 * k = (y - 44 * (k : Int)).toNat by omega] at hs
   have HS := qH hs
   have HJ := qH hj
   have hjc : j < c := by omega
   clear hs hj
   have hw3 : wrap64 (y - 44 * (k : Int)) = y - 44 * (k : Int) := by unfold wrap64; omega
   go_wp2_with fail
   go_roundw
   case rel => exact ⟨j + 1, y - 44 * (k : Int), by go_num, by first | rfl | go_num, by omega, by omega, by have := HS.out; have := HJ.out; omega, trivial⟩
   case measure => simp [intOf]; omega
  ·rw [show y.toNat = 0 by omega, countN_zero] at hj
   obtain rfl : j = c := by omega
   go_wp2_with fail
   go_ret
   exact ⟨rfl, rfl⟩
/-! Places below 0. -/
def belowL (zs : List Int) : Bool := zs.any fun z => decide (z < 0)
theorem below1_any (z : Int) (w : World) : Calls Tryz.prog 51 #[.int .i64 z] w fun e w' => e = .returned (.bool (decide (z < 0))) ∧ w' = w := by
 by_cases c : z < 0
 ·rw [decide_eq_true c]
  go_enter Tryz.func51, Tryz.ntmps51
  go_wp2_with fail
  go_ret
  exact ⟨rfl, rfl⟩
 ·rw [decide_eq_false c]
  go_enter Tryz.func51, Tryz.ntmps51
  go_wp2_with fail
  go_ret
  exact ⟨rfl, rfl⟩
theorem indexb_any (A : Option Addr) (n cp : Nat) (l : List Int) (w : World) (h : Sl w 1 A n cp (icells l)) :
  Calls Tryz.prog 84 #[.slice A n cp, .func (.func 51) #[] #[]] w
   fun e w' => w' = w ∧ ((e = .returned (.int .i64 (-1)) ∧ belowL l = false) ∨ ∃ d : Nat, e = .returned (.int .i64 (d : Int)) ∧ belowL l = true) := by
 have hn := h.lim
 unfold maxLen at hn
 have hl := h.len
 rw [icells_length, Nat.mul_one] at hl
 have Hs := qH h; clear h
 have Hl := qH hl; clear hl
 go_enter Tryz.func84, Tryz.ntmps84
 go_wp2_with fail
 go_loopw [8] (fun i wr => ∃ k : Nat, k ≤ n ∧ i = .int .i64 (k : Int) ∧ wr = w ∧ ∀ j (hj : j < l.length), j < k → ¬ l[j] < 0) (fun i _ => n - (intOf i).toNat)
 case atStart => exact ⟨0, by omega, rfl, rfl, fun j _ hj => absurd hj (by omega)⟩
 case round =>
  obtain ⟨k, hk, rfl, rfl, hz⟩ := hrel
  have Hz := qH hz; clear hz
  by_cases hlt : k < n
  ·have hkl : k < l.length := by rw [Hl.out]; exact hlt
   obtain ⟨b1, o1, rfl, hc⟩ := Hs.out.at_ hlt
   have hcell := hc k _ (icells_get l k hkl)
   clear hc
   obtain ⟨z, hzz⟩ : ∃ z, z = l[k] := ⟨_, rfl⟩
   rw [← hzz] at hcell
   have Hzz := qH hzz; clear hzz
   have hh := below1_any z wr
   by_cases hx : z < 0
   ·rw [decide_eq_true hx] at hh
    have Hx := qH hx; clear hx
    go_wp2_with fail
    refine hh.mono ?_; clear hh; rintro e w' ⟨rfl, rfl⟩
    go_wp2_with fail
    go_ret
    refine ⟨rfl, .inr ⟨k, rfl, ?_⟩⟩
    rw [belowL, List.any_eq_true]
    exact ⟨l[k], List.getElem_mem hkl, by rw [← Hzz.out]; exact decide_eq_true (by have := Hx.out; omega)⟩
   ·rw [decide_eq_false hx] at hh
    have Hx := qH hx; clear hx
    go_wp2_with fail
    refine hh.mono ?_; clear hh; rintro e w' ⟨rfl, rfl⟩
    go_wp2_with fail
    go_roundw
    case rel => exact ⟨k + 1, by omega, by go_num, trivial, fun j hj hjk => by
     by_cases he : j = k
     ·subst he; rw [← Hzz.out]; have := Hx.out; omega
     ·have := Hz.out j hj (by omega); omega⟩
    case measure => simp [intOf]; omega
  ·obtain rfl : k = n := by omega
   go_wp2_with fail
   go_ret
   refine ⟨rfl, .inl ⟨rfl, ?_⟩⟩
   rw [belowL, List.any_eq_false]
   intro z hz
   obtain ⟨j, hj, rfl⟩ := List.mem_iff_getElem.1 hz
   rw [decide_eq_false (by have := Hz.out j hj (by rw [← Hl.out]; exact hj); omega)]
   decide
theorem below15 (A : Option Addr) (n cp : Nat) (l : List Int) (w : World) (h : Sl w 1 A n cp (icells l)) :
  Calls Tryz.prog 27 #[.slice A n cp] w fun e w' => e = .returned (.bool (belowL l)) ∧ w' = w := by
 have hh := indexb_any A n cp l w h
 clear h
 obtain ⟨x, hx⟩ : ∃ x, x = belowL l := ⟨_, rfl⟩
 rw [← hx] at hh ⊢
 clear hx
 have hc : Calls Tryz.prog 50 #[.slice A n cp, .func (.func 51) #[] #[]] w fun e w' => e = .returned (.bool x) ∧ w' = w := by
  go_enter Tryz.func50, Tryz.ntmps50
  go_wp2_with fail
  refine hh.mono ?_; clear hh; rintro e w' ⟨rfl, ⟨rfl, rfl⟩ | ⟨d, rfl, rfl⟩⟩
  ·go_wp2_with fail
   go_ret
   exact ⟨rfl, rfl⟩
  ·have hd : decide ((d : Int) ≥ 0) = true := by simp
   go_wp2_with fail
   go_ret
   exact ⟨rfl, rfl⟩
 clear hh
 go_enter Tryz.func27, Tryz.ntmps27
 go_wp2_with fail
 refine hc.mono ?_; clear hc; rintro e w1 ⟨rfl, hw1⟩
 obtain rfl : w = w1 := hw1.symm
 go_wp2_with fail
 go_ret
 exact ⟨rfl, rfl⟩
/-! Are an array and a coder there? -/
theorem cnnil15 (w : World) : Calls Tryz.prog 58 #[.pointer none] w fun e w' => e = .returned (.int .i64 0) ∧ w' = w := by
 go_enter Tryz.func58, Tryz.ntmps58
 go_wp2_with fail
 go_ret
 exact ⟨rfl, rfl⟩
theorem arnnil15 (w : World) : Calls Tryz.prog 57 #[.pointer none] w fun e w' => e = .returned (.int .i64 0) ∧ w' = w := by
 go_enter Tryz.func57, Tryz.ntmps57
 go_wp2_with fail
 go_ret
 exact ⟨rfl, rfl⟩
theorem there_noA (v : Value) (w : World) : Calls Tryz.prog 34 #[.pointer none, v] w fun e w' => e = .returned (.bool false) ∧ w' = w := by
 have hn := arnnil15 w
 go_enter Tryz.func34, Tryz.ntmps34
 go_wp2_with fail
 refine hn.mono ?_; clear hn; rintro e w1 ⟨rfl, hw1⟩
 obtain rfl : w = w1 := hw1.symm
 go_wp2_with fail
 go_ret
 exact ⟨rfl, rfl⟩
section
variable {Rep : World → (Nat → Prop) → Nat → Dv → Prop} {w : World} {S : Nat → Prop} {A C k m F T N : Nat} {xs : List Dv}
theorem there_noC (h : AP Rep w S A xs) (h0 : 0 < xs.length) : Calls Tryz.prog 34 #[.pointer (some ⟨A, 0, none⟩), .pointer none] w fun e w' => e = .returned (.bool false) ∧ w' = w := by
 have hn := arN_any h
 have hc := cnnil15 w
 have hi : (0 : Int) < (xs.length : Int) := by omega
 clear h
 go_enter Tryz.func34, Tryz.ntmps34
 go_wp2_with fail
 refine hn.mono ?_; clear hn; rintro e w1 ⟨rfl, hw1⟩
 obtain rfl : w = w1 := hw1.symm
 go_wp2_with fail
 refine hc.mono ?_; clear hc; rintro e w1 ⟨rfl, hw1⟩
 obtain rfl : w = w1 := hw1.symm
 go_wp2_with fail
 go_ret
 exact ⟨rfl, rfl⟩
theorem there_yes (h : Ac13 Rep w S A C k m F T N xs) : Calls Tryz.prog 34 #[.pointer (some ⟨A, 0, none⟩), .pointer (some ⟨C, 0, none⟩)] w fun e w' => e = .returned (.bool true) ∧ Below w.heap.size w w' := by
 have hn := arN_any h.a
 have hc := cn13 h.c rfl
 have hk := h.c.k1
 rw [h.len] at hn
 obtain ⟨q, hq⟩ : ∃ q, q = k + m := ⟨_, rfl⟩
 rw [← hq] at hn hc
 have hi : (0 : Int) < (q : Int) := by omega
 clear h hq
 go_enter Tryz.func34, Tryz.ntmps34
 go_wp2_with fail
 refine hn.mono ?_; clear hn; rintro e w1 ⟨rfl, hw1⟩
 obtain rfl : w = w1 := hw1.symm
 go_wp2_with fail
 refine hc.mono ?_; clear hc; rintro e w1 ⟨rfl, hb⟩
 go_wp2_with fail
 go_ret
 exact ⟨rfl, hb⟩
end
end Go.Proofs.YthmneinejfbheaaGreatDoor
