/-
  Contracts of package scroll's there, room, Count, part, ref, could, name and next; the document's Count. Conditions: bounds; the coder is one that New made, or none.
-/
import Derived.Test.YtokbhgbajdomnaaGreatDoorEia
import Derived.Test.YtokbhgbajdomnaaGreatDoorEhb
import Derived.Test.YtokbhgbajdomnaaGreatDoorEhf
set_option linter.unusedVariables false
set_option maxRecDepth 20000
set_option maxHeartbeats 1600000
namespace Go.Proofs.YtokbhgbajdomnaaGreatDoor
open Go.RowKit Go.Proofs
/-! Are an array and a coder there? -/
theorem there16_noA (v : Value) (w : World) : Calls Tryz.prog 44 #[.pointer none, v] w fun e w' => e = .returned (.bool false) ∧ w' = w := by
 have hn := arnnil15 w
 go_enter Tryz.func44, Tryz.ntmps44
 go_wp2_with fail
 refine hn.mono ?_; clear hn; rintro e w1 ⟨rfl, hw1⟩
 obtain rfl : w = w1 := hw1.symm
 go_wp2_with fail
 go_ret
 exact ⟨rfl, rfl⟩
section
variable {Rep : World → (Nat → Prop) → Nat → Dv → Prop} {w : World} {S : Nat → Prop} {A C k m F T N : Nat} {xs : List Dv}
theorem there16_noC (h : AP Rep w S A xs) (h0 : 0 < xs.length) : Calls Tryz.prog 44 #[.pointer (some ⟨A, 0, none⟩), .pointer none] w fun e w' => e = .returned (.bool false) ∧ w' = w := by
 have hn := arN_any h
 have hc := cnnil15 w
 have hi : (0 : Int) < (xs.length : Int) := by omega
 clear h
 go_enter Tryz.func44, Tryz.ntmps44
 go_wp2_with fail
 refine hn.mono ?_; clear hn; rintro e w1 ⟨rfl, hw1⟩
 obtain rfl : w = w1 := hw1.symm
 go_wp2_with fail
 refine hc.mono ?_; clear hc; rintro e w1 ⟨rfl, hw1⟩
 obtain rfl : w = w1 := hw1.symm
 go_wp2_with fail
 go_ret
 exact ⟨rfl, rfl⟩
theorem there16_yes (h : Ac13 Rep w S A C k m F T N xs) : Calls Tryz.prog 44 #[.pointer (some ⟨A, 0, none⟩), .pointer (some ⟨C, 0, none⟩)] w fun e w' => e = .returned (.bool true) ∧ Below w.heap.size w w' := by
 have hn := arN_any h.a
 have hc := cn13 h.c rfl
 have hk := h.c.k1
 rw [h.len] at hn
 obtain ⟨q, hq⟩ : ∃ q, q = k + m := ⟨_, rfl⟩
 rw [← hq] at hn hc
 have hi : (0 : Int) < (q : Int) := by omega
 clear h hq
 go_enter Tryz.func44, Tryz.ntmps44
 go_wp2_with fail
 refine hn.mono ?_; clear hn; rintro e w1 ⟨rfl, hw1⟩
 obtain rfl : w = w1 := hw1.symm
 go_wp2_with fail
 refine hc.mono ?_; clear hc; rintro e w1 ⟨rfl, hb⟩
 go_wp2_with fail
 go_ret
 exact ⟨rfl, hb⟩
end
/-! How much of a text a stripe holds, and how many stripes hold one. -/
theorem room16 {w : World} {C k m F T r : Nat} (h : Cod w C k m F T) (hr : 44 * k = r + 10) : Calls Tryz.prog 85 #[.pointer (some ⟨C, 0, none⟩)] w fun e w' => e = .returned (.int .i64 (r : Int)) ∧ w' = w := by
 have hq := sroom_any h
 have hlt := h.n255
 rw [hr] at hq
 obtain ⟨q, hqq⟩ : ∃ q, q = r + 10 := ⟨_, rfl⟩
 rw [← hqq] at hq
 have hw : wrap64 ((q : Int) - 10) = (r : Int) := by unfold wrap64; omega
 clear h hqq
 go_enter Tryz.func85, Tryz.ntmps85
 go_wp2_with fail
 refine hq.mono ?_; clear hq; rintro e w1 ⟨rfl, hw1⟩
 obtain rfl : w = w1 := hw1.symm
 go_wp2_with fail
 go_ret
 exact ⟨by rw [← hw]; rfl, rfl⟩
def cntZ (r : Nat) (z : Int) : Nat := if z < 0 then 0 else countS r z.toNat
theorem cntZ_nat {r Z : Nat} : cntZ r (Z : Int) = countS r Z := by rw [cntZ, if_neg (by omega), Int.toNat_natCast]
theorem count16 {w : World} {C k m F T r : Nat} (h : Cod w C k m F T) (hr : 44 * k = r + 10) (z : Int) (h1 : -9223372036854775808 ≤ z) (h2 : z < 9223372036854775808) :
  Calls Tryz.prog 39 #[.pointer (some ⟨C, 0, none⟩), .int .i64 z] w fun e w' => e = .returned (.int .i64 (cntZ r z : Nat)) ∧ Below w.heap.size w w' := by
 have hk := h.k1
 have hlt := h.n255
 by_cases c1 : z < 0
 ·rw [cntZ, if_pos c1]
  clear h
  go_enter Tryz.func39, Tryz.ntmps39
  go_wp2_with fail
  go_ret
  exact ⟨rfl, Below.refl _ _⟩
 ·rw [cntZ, if_neg c1]
  have hn := cn13 h rfl
  obtain ⟨n, hn0⟩ : ∃ n, n = k + m := ⟨_, rfl⟩
  rw [← hn0] at hn
  have hnb : ((n : Int) == 0) = false := by simp; omega
  have HH := qH h
  have HR := qH hr
  have hrr : ¬ (r : Int) = 0 := by omega
  have HRR := qH hrr
  obtain ⟨y, hy, hy2⟩ : ∃ y : Nat, max (z - 1) 0 = (y : Int) ∧ y = z.toNat - 1 := ⟨z.toNat - 1, by omega, rfl⟩
  obtain ⟨q, hq, hq2⟩ : ∃ q : Nat, (y : Int).tdiv (r : Int) = (q : Int) ∧ countS r z.toNat = q + 1 := ⟨y / r, rfl, by rw [countS, hy2]⟩
  have hqy : q ≤ y := by
   have e : q = y / r := by
    have : (y : Int).tdiv (r : Int) = ((y / r : Nat) : Int) := rfl
    omega
   rw [e]; exact Nat.div_le_self _ _
  rw [hq2]
  have HQ := qH hq
  clear h hr hrr hq hq2 hn0
  by_cases c2 : z = 0
  ·subst c2
   obtain rfl : y = 0 := by omega
   have hq0 : q = 0 := by
    have := HQ.out
    simp at this
    omega
   have hr0 : ¬ r = 0 := by have := HRR.out; omega
   subst hq0
   clear hy hy2 hqy
   go_enter Tryz.func39, Tryz.ntmps39
   go_wp2_with fail
   refine hn.mono ?_; clear hn; rintro e w1 ⟨rfl, hb⟩
   have hh := room16 (HH.out.later hb) HR.out
   go_wp2_with fail
   refine hh.mono ?_; clear hh; rintro e w2 ⟨rfl, hw⟩
   obtain rfl : w1 = w2 := hw.symm
   go_wp2_with fail
   go_ret
   exact ⟨rfl, hb⟩
  ·have c3 : ¬ z - 1 ≤ 0 ∨ z - 1 = 0 := by omega
   have hz0 : (0 : Int) ≤ z - 1 := by omega
   obtain rfl : z = (y : Int) + 1 := by omega
   have hw1 : wrap64 ((y : Int) + 1 - 1) = (y : Int) := by unfold wrap64; omega
   have hy0 : (0 : Int) ≤ (y : Int) := by omega
   clear hy hy2 c3 c2 hz0
   go_enter Tryz.func39, Tryz.ntmps39
   go_wp2_with fail
   refine hn.mono ?_; clear hn; rintro e w1 ⟨rfl, hb⟩
   have hh := room16 (HH.out.later hb) HR.out
   go_wp2_with fail
   refine hh.mono ?_; clear hh; rintro e w2 ⟨rfl, hw⟩
   obtain rfl : w1 = w2 := hw.symm
   go_wp2_with (refine at_dst11 (d := 17) ?_; refine wpList_step11 (o := ⟨some 17, _, _, _, _, _⟩) rfl (.int .i64 (q : Int)) w1 (step_quo15 (a := (y : Int)) (b := (r : Int)) (x := .tmp 14) (y := .tmp 16) rfl rfl rfl HRR.out (by rw [HQ.out, IntKind.wrap_i64]; omega)) ?_)
   go_ret
   exact ⟨rfl, hb⟩
theorem count16_nil (w : World) (z : Int) : Calls Tryz.prog 39 #[.pointer none, .int .i64 z] w fun e w' => e = .returned (.int .i64 0) ∧ w' = w := by
 have hn := cnnil15 w
 by_cases c1 : z < 0
 ·go_enter Tryz.func39, Tryz.ntmps39
  go_wp2_with fail
  go_ret
  exact ⟨rfl, rfl⟩
 ·go_enter Tryz.func39, Tryz.ntmps39
  go_wp2_with fail
  refine hn.mono ?_; clear hn; rintro e w1 ⟨rfl, hw1⟩
  obtain rfl : w = w1 := hw1.symm
  go_wp2_with fail
  go_ret
  exact ⟨rfl, rfl⟩
theorem part16 {w : World} {C k m F T r : Nat} (h : Cod w C k m F T) (hr : 44 * k = r + 10) (Z i : Nat) (hZ : Z ≤ 100000000) (hi : i ≤ 400) :
  Calls Tryz.prog 94 #[.pointer (some ⟨C, 0, none⟩), .int .i64 (Z : Int), .int .i64 (i : Int)] w fun e w' => e = .returned (.tuple #[.int .i64 ((i * r : Nat) : Int), .int .i64 ((min ((i + 1) * r) Z : Nat) : Int)]) ∧ w' = w := by
 have hq := room16 h hr
 have hlt := h.n255
 have HQ := qH hq
 clear h hq
 have hm : (i + 1) * r ≤ 401 * 65536 := Nat.mul_le_mul (by omega) (by omega)
 have hm2 : i * r ≤ (i + 1) * r := Nat.mul_le_mul_right _ (by omega)
 have e1 : (i : Int) * (r : Int) = ((i * r : Nat) : Int) := by simp
 have e2 : ((i : Int) + 1) * (r : Int) = (((i + 1) * r : Nat) : Int) := by simp
 obtain ⟨q1, hq1⟩ : ∃ q, q = i * r := ⟨_, rfl⟩
 obtain ⟨q2, hq2⟩ : ∃ q, q = (i + 1) * r := ⟨_, rfl⟩
 rw [← hq1] at e1 hm2 ⊢
 rw [← hq2] at e2 hm2 hm ⊢
 have hw1 : wrap64 ((i : Int) * (r : Int)) = (q1 : Int) := by rw [e1]; unfold wrap64; omega
 have hw2 : wrap64 (((i : Int) + 1) * (r : Int)) = (q2 : Int) := by rw [e2]; unfold wrap64; omega
 clear e1 e2 hq1 hq2 hr
 go_enter Tryz.func94, Tryz.ntmps94
 go_wp2_with fail
 refine HQ.out.mono ?_; rintro e w1 ⟨rfl, hwq⟩
 obtain rfl : w = w1 := hwq.symm
 go_wp2_with fail
 refine HQ.out.mono ?_; rintro e w1 ⟨rfl, hwq⟩
 obtain rfl : w = w1 := hwq.symm
 go_wp2_with fail
 all_goals
  go_ret2
  refine ⟨?_, rfl⟩
  first | (rw [Nat.min_eq_left (by omega)]; rfl) | (rw [Nat.min_eq_right (by omega)]; rfl)
theorem rcount16 (k r : Nat) (hr : 44 * k = r + 10) (h2 : k ≤ 255) (z : Int) (hz1 : -9223372036854775808 ≤ z) (hz2 : z < 9223372036854775808) (w : World) :
  Calls Tryz.prog 31 #[.int .i64 (k : Int), .int .i64 z] w fun e w' => e = .returned (.int .i64 (cntZ r z : Nat)) ∧ w' = w := by
 by_cases c0 : z < 0
 ·rw [cntZ, if_pos c0]
  clear hr
  go_enter Tryz.func31, Tryz.ntmps31
  go_wp2_with fail
  go_ret
  exact ⟨rfl, rfl⟩
 rw [cntZ, if_neg c0]
 have hrk : (r : Int) = 44 * (k : Int) - 10 := by omega
 have hw : wrap64 (44 * (k : Int)) = 44 * (k : Int) := by unfold wrap64; omega
 have hw2 : wrap64 (44 * (k : Int) - 10) = 44 * (k : Int) - 10 := by unfold wrap64; omega
 have hw3 : wrap64 (z - (44 * (k : Int) - 10)) = z - (r : Int) := by rw [hrk]; unfold wrap64; omega
 obtain ⟨c, hc⟩ : ∃ c, c = countS r z.toNat := ⟨_, rfl⟩
 rw [← hc]
 have hcz : c ≤ 4611686018427387904 := by
  rw [hc, countS]
  have : (z.toNat - 1) / r ≤ (z.toNat - 1) / 34 := Nat.div_le_div_left (by omega) (by decide)
  omega
 have HC := qH hc
 have hr34 : 34 ≤ r ∧ r ≤ 11210 := by omega
 have HRK := qH hrk
 clear hc hr hrk
 go_enter Tryz.func31, Tryz.ntmps31
 go_wp2_with fail
 clear hw3
 go_loopw [5, 6] (fun n l wr => ∃ (j : Nat) (y : Int), n = .int .i64 (j : Int) ∧ l = .int .i64 y ∧ -9223372036854775808 ≤ y ∧ y ≤ z - (r : Int) ∧ 1 ≤ j ∧ j + countS r (y + (r : Int)).toNat = c + 1 ∧ wr = w) (fun n l _ => (intOf l).toNat)
 case atStart => exact ⟨1, z - (r : Int), rfl, rfl, by omega, Int.le_refl _, by omega, by rw [HC.out, show z - (r : Int) + (r : Int) = z by omega]; omega, rfl⟩
 case round =>
  obtain ⟨j, y, rfl, rfl, hy1, hy2, hj1, hj, hwr⟩ := hrel
  obtain rfl : w = wr := hwr.symm
  by_cases hy : 0 < y
  ·have hs := countS_step (R := r) (z := (y + (r : Int)).toNat) (by omega) (by omega)
   rw [show (y + (r : Int)).toNat - r = (y - (r : Int) + (r : Int)).toNat by omega] at hs
   have HS := qH hs
   have HJ := qH hj
   have hjc : j ≤ c := by omega
   clear hs hj
   have hw5 : wrap64 (y - (44 * (k : Int) - 10)) = y - (r : Int) := by rw [HRK.out]; unfold wrap64; have := HRK.out; omega
   go_wp2_with fail
   go_roundw
   case rel => exact ⟨j + 1, y - (r : Int), by go_num, by first | rfl | (rw [HRK.out]; done) | go_num, by omega, by omega, by omega, by have := HS.out; have := HJ.out; omega, trivial⟩
   case measure => have := HRK.out; simp [intOf]; omega
  ·rw [countS_low (R := r) (z := (y + (r : Int)).toNat) (by omega)] at hj
   obtain rfl : j = c := by omega
   go_wp2_with fail
   go_ret
   exact ⟨rfl, rfl⟩
/-! Names. -/
theorem ref16_any (p g : Int) (w : World) : Calls Tryz.prog 70 #[.int .i64 p, .int .u64 g] w fun e w' => e = .returned (.agg #[.int .u8 4, .int .i64 p, .int .u64 g]) ∧ Below w.heap.size w w' := by
 have sz := qH (size_ref13 4 p g)
 have hb : Below w.heap.size w (w.alloc (.cells #[.int .u8 4, .int .i64 p, .int .u64 g] 99)) := (Below.refl _ _).alloc (Nat.le_refl _) _
 have hx := heap_alloc_new w (.cells #[.int .u8 4, .int .i64 p, .int .u64 g] 99)
 have HB := qH hb
 have HX := qH hx
 clear hb hx
 go_enter Tryz.func70, Tryz.ntmps70
 go_wp2_with (first
  | (refine at_dst11 (d := 7) ?_; refine wpList_step11 (o := ⟨some 7, _, _, _, _, _⟩) rfl _ _ (step_refb15 (a := .const (.int .u8 4)) (b := .tmp 5) (c := .tmp 6) rfl rfl rfl rfl) ?_)
  | (refine at_none ?_; refine wpList_store_row (o := ⟨none, _, _, _, _, _⟩) rfl 99 (.tmp 4) (.tmp 7) rfl w.heap.size #[.int .u8 4, .int .i64 p, .int .u64 g] rfl rfl 99 _ (heap_alloc_last _ _) sz.out rfl (all_oneCell_toArray (r3c_one (4, p, g))) ?_; rw [World.setRow_alloc_new]))
 refine bodyPost_ret (results_cell_row Tryz.results70 _ _ w.heap.size 99 _ (0, 0) _ rfl HX.out Tryz.underlying99 rfl sz.out) rfl ?_
 exact ⟨rfl, HB.out⟩
theorem could16 {Rep : World → (Nat → Prop) → Nat → Dv → Prop} {Good : Nat → Nat → (Nat → Bool) → Prop} (DK : DrvK Rep) (SV : StrV Rep Good) {w : World} {S : Nat → Prop} {A C k m F T N p g : Nat} {xs : List Dv} {b : List UInt8} {G : Nat → Bool} (h : Ac13 Rep w S A C k m F T N xs) (hr : RefOk 4 p g b.length (44 * k)) (hp : p < N) (hs : Str xs k (k + m) N 4 p g b G) :
  Calls Tryz.prog 69 #[.pointer (some ⟨A, 0, none⟩), .pointer (some ⟨C, 0, none⟩), .agg #[.int .u8 4, .int .i64 (p : Int), .int .u64 (g : Int)]] w fun e w' => e = .returned (.bool true) ∧ Below w.heap.size w w' := by
 have hk := h.c.k1
 have hb : Below w.heap.size w (w.alloc (.cells #[.int .u8 4, .int .i64 (p : Int), .int .u64 (g : Int)] 99)) := (Below.refl _ _).alloc (Nat.le_refl _) _
 have hw := SV.whole (h.later DK hb) hr hp hs
 have HB := qH hb
 have hx : Rf13 (w.alloc (.cells #[.int .u8 4, .int .i64 (p : Int), .int .u64 (g : Int)] 99)) w.heap.size 4 (p : Int) (g : Int) := heap_alloc_new w _
 have HX := qH hx
 obtain ⟨n, hn⟩ : ∃ n, n = k + m := ⟨_, rfl⟩
 rw [← hn] at hw
 have hn0 : 0 < n := by omega
 have HN0 := qH hn0
 clear h hr hs hb hx hn hn0
 go_enter Tryz.func69, Tryz.ntmps69
 go_wp2_with (refine at_dst11 (d := 9) ?_; refine wpList_step11 (o := ⟨some 9, _, _, _, _, _⟩) rfl _ _ (step_ref13 (x := .tmp 5) rfl rfl HX.out) ?_)
 refine hw.mono ?_; clear hw; rintro e w1 ⟨A2, c2, rfl, hb1⟩
 have B1 := qH (HB.out.trans (hb1.mono HB.out.size))
 clear hb1
 go_wp2_with fail
 go_ret
 refine ⟨?_, B1.out⟩
 show Ending.returned (.bool (decide (0 < n))) = _
 rw [decide_eq_true HN0.out]
theorem name16 (p g : Nat) (hp : p < 18446744073709551616) (hg : g < 18446744073709551616) (z y : Int) (hz : z = (p : Int)) (hy : y = (g : Int)) (hp63 : p < 9223372036854775808) (w : World) :
  Calls Tryz.prog 77 #[.int .i64 z, .int .u64 y] w fun e w' => ∃ A', e = .returned (.slice A' 10 10) ∧ Sl w' 1 A' 10 10 (cells (nameL p g)) ∧ Mine w' w.heap.size 5 A' 10 (cells (nameL p g)) ∧ Below w.heap.size w w' := by
 subst hz hy
 have h1 := put_mine none 0 0 [] 2 p w (Sl.nil w 1 0 (by decide)) (by decide) (by decide) (by decide) hp
 go_enter Tryz.func77, Tryz.ntmps77
 go_wp2_with fail
 refine h1.mono ?_; clear h1; rintro e w1 ⟨A1, rfl, hs, hm, hb⟩
 have h2 := put_mine A1 (0 + 2) (0 + 2) ([] ++ le 2 p) 8 g w1 hs (by decide) (by decide) (by decide) hg
 have HB := qH hb
 clear hs hm hb
 go_wp2_with fail
 refine h2.mono ?_; clear h2; rintro e w2 ⟨A2, rfl, hs, hm, hb⟩
 rw [show ([] ++ le 2 p) ++ le 8 g = nameL p g from rfl] at hs hm
 have HS := qH hs
 have HM := qH hm
 have HB2 := qH (HB.out.trans (hb.mono HB.out.size))
 have HSZ := qH HB.out.size
 clear hs hm hb
 go_wp2_with fail
 go_ret
 exact ⟨A2, rfl, HS.out, HM.out.lower HSZ.out, HB2.out⟩
theorem next16 (A : Option Addr) (n c : Nat) (l : List UInt8) (p g : Nat) (w : World) (h : Sl w 1 A n c (cells l)) (hn : 10 ≤ n) (hp : leVal (l.take 2) = p) (hg : leVal ((l.drop 2).take 8) = g) (hp16 : p < 65536) (hg64 : g < 18446744073709551616) :
  Calls Tryz.prog 113 #[.slice A n c] w fun e w' => e = .returned (.agg #[.int .u8 4, .int .i64 (p : Int), .int .u64 (g : Int)]) ∧ Below w.heap.size w w' := by
 have sz := qH (size_ref13 4 (p : Int) (g : Int))
 have sz0 := qH (size_ref13 0 0 0)
 have hb : Below w.heap.size w (w.alloc (.cells #[.int .u8 0, .int .i64 0, .int .u64 0] 99)) := (Below.refl _ _).alloc (Nat.le_refl _) _
 have hx := heap_alloc_new w (.cells #[.int .u8 0, .int .i64 0, .int .u64 0] 99)
 have hs := h.below hb (Nat.le_refl _)
 have hwz : wrap64 (p : Int) = (p : Int) := by unfold wrap64; omega
 go_enter Tryz.func113, Tryz.ntmps113
 go_wp2_with fail
 obtain ⟨wa, hwa⟩ : ∃ x, x = w.alloc (.cells #[.int .u8 0, .int .i64 0, .int .u64 0] 99) := ⟨_, rfl⟩
 rw [← hwa] at hb hx hs ⊢
 clear hwa
 have h1 := get_ok A n c l 0 2 wa hs (by decide) (by decide) (by omega)
 rw [List.drop_zero, hp] at h1
 have h2 := get_ok A n c l 2 8 wa hs (by decide) (by decide) (by omega)
 rw [hg] at h2
 have HB := qH hb
 have HX := qH hx
 clear hb hx hs h hp hg
 refine h1.mono ?_; clear h1; rintro e w1 ⟨rfl, hw⟩
 obtain rfl : wa = w1 := hw
 go_wp2_with fail
 refine h2.mono ?_; clear h2; rintro e w1 ⟨rfl, hw⟩
 obtain rfl : wa = w1 := hw
 have h3 := ref16_any (p : Int) (g : Int) wa
 go_wp2_with fail
 refine h3.mono ?_; clear h3; rintro e w2 ⟨rfl, hb⟩
 obtain ⟨B, hB⟩ : ∃ B, B = w.heap.size := ⟨_, rfl⟩
 rw [← hB] at HX ⊢
 have X2 := qH ((hb.block _ (block_lt HX.out)).trans HX.out)
 have B2 := qH (HB.out.trans (hb.mono HB.out.size))
 have HBB := qH hB
 clear hb hB
 go_wp2_with (refine at_none ?_; refine wpList_store_row (o := ⟨none, _, _, _, _, _⟩) rfl 99 (.tmp 2) (.tmp 20) rfl B #[.int .u8 4, .int .i64 (p : Int), .int .u64 (g : Int)] rfl rfl 99 _ X2.out sz.out rfl (all_oneCell_toArray (r3c_one (4, (p : Int), (g : Int)))) ?_)
 refine bodyPost_ret (results_cell_row Tryz.results113 _ _ B 99 _ (0, 0) _ rfl (setRow_heap _ _ _ _ _ _ X2.out) Tryz.underlying99 rfl sz.out) rfl ?_
 exact ⟨rfl, below_setRow B2.out (by have := HBB.out; omega) _⟩
end Go.Proofs.YtokbhgbajdomnaaGreatDoor
