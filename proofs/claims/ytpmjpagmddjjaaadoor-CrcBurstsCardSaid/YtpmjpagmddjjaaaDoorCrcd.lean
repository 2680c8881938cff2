/-
  Contracts of package crc's times and behindNoughts: many noughts at once. Condition: the table reads as the row lists it ('Nt').
-/
import Derived.Test.YtpmjpagmddjjaaaDoorCrcc
namespace Go.Proofs.YtpmjpagmddjjaaaDoor
open Go.RowKit
set_option linter.unusedVariables false

/-- The words of b8 done so many times. -/
def pw (k : Nat) (i : Nat) : W32 := rep b8 k (unit i)
theorem pw_tog (k : Nat) (c : W32) : tog (pw k) 32 c = rep b8 k c := lin_tog (rep_lin b8_lin k) c
theorem pw_twice (j : Nat) : (arr fun i => (fun x => tog (pw (2 ^ j)) 32 (tog (pw (2 ^ j)) 32 x)) (unit i)) = arr (pw (2 ^ (j + 1))) := by
  apply arr_congr
  intro i _
  show tog (pw (2 ^ j)) 32 (tog (pw (2 ^ j)) 32 (unit i)) = _
  rw [pw_tog, pw_tog, ← rep_add, pw, Nat.pow_succ, Nat.mul_two]
theorem pw_once : (arr fun i => b8 (unit i)) = arr (pw (2 ^ 0)) := arr_congr fun i _ => rfl

theorem half_odd (N j z : Nat) (hz : z = N / 2 ^ j) (h : z % 2 = 1) (c : W32) : rep b8 (2 ^ j) (rep b8 (N % 2 ^ j) c) = rep b8 (N % 2 ^ (j + 1)) c := by
  rw [← rep_add, Nat.pow_succ, Nat.mod_mul, ← hz, h, Nat.mul_one]
theorem half_even (N j z : Nat) (hz : z = N / 2 ^ j) (h : ¬ z % 2 = 1) (c : W32) : rep b8 (N % 2 ^ j) c = rep b8 (N % 2 ^ (j + 1)) c := by
  have : z % 2 = 0 := by omega
  rw [Nat.pow_succ, Nat.mod_mul, ← hz, this, Nat.mul_zero, Nat.add_zero]
theorem half_end (N j z : Nat) (hz : z = N / 2 ^ j) (h : z = 0) : N % 2 ^ j = N := by
  subst h
  have hp : 0 < 2 ^ j := Nat.pow_pos (by omega)
  have := Nat.div_add_mod N (2 ^ j)
  rw [← hz, Nat.mul_zero, Nat.zero_add] at this
  exact this

/-- Behind j doublings: the step's row holds what 2 to the j noughts make. -/
structure Doubled (W : World) (B j : Nat) (wr : World) : Prop where
  below : Below W.heap.size W wr
  high : W.heap.size ≤ B
  row : wr.heap[B]? = some (.cells (arr (pw (2 ^ j))) 41 (0, 0))
theorem Doubled.later {W wr w1 : World} {B j : Nat} (h : Doubled W B j wr) (hb : Below wr.heap.size wr w1) : Doubled W B j w1 := ⟨h.below.trans (hb.mono h.below.size), h.high, row_below h.row hb⟩

theorem Doubled.next {W wr : World} {B j k : Nat} (h : Doubled W B j wr) : Doubled W B k (wr.setRow B (arr (pw (2 ^ k)))) :=
  ⟨h.below.trans ⟨rfl, rfl, rfl, by simp, fun i hi => setRow_other _ _ i _ (by have := h.high; omega)⟩, h.high, setRow_heap _ _ _ _ _ _ h.row⟩
theorem Doubled.start {W w1 : World} (hb : Below W.heap.size W w1) (cs : Array Value) (m : Nat → W32) (hm : arr m = arr (pw (2 ^ 0))) : Doubled W w1.heap.size 0 ((w1.alloc (.cells cs 41)).setRow w1.heap.size (arr m)) :=
  ⟨hb.trans (((Below.refl _ _).alloc hb.size _).trans ⟨rfl, rfl, rfl, by simp, fun i hi => setRow_other _ _ i _ (by have := hb.size; omega)⟩), hb.size, by rw [hm]; exact setRow_heap _ _ _ _ _ _ (heap_alloc_new w1 _)⟩

set_option maxHeartbeats 400000 in
set_option maxRecDepth 20000 in
theorem times_some (n : Nat) (hn : (n : Int) < 9223372036854775808) (c : W32) (w : World) (h : Nt w) :
    Calls Tryd.prog 26 #[.int .i64 (n : Int), .int .u32 (c.toNat : Int), .func (.func 27) #[] #[]] w fun e w' => e = .returned (.int .u32 ((rep b8 n c).toNat : Int)) ∧ Below w.heap.size w w' := by
  go_enter Tryd.func26, Tryd.ntmps26
  go_wp2_with fail
  refine (ofBits_nought _ h).mono ?_; rintro e w1 ⟨rfl, hb1⟩
  rw [pw_once]
  go_wp2_with (refine wpList_store_row (o := ⟨none, _, _, _, _, _⟩) rfl 41 (.tmp 7) (.tmp 9) rfl w1.heap.size (arr (pw (2 ^ 0))) rfl rfl 41 _ (heap_alloc_new w1 _) (size_arr _) (by rw [arr_size]; rfl) (arr_one _) ?_)
  have hd : Doubled w w1.heap.size 0 ((w1.alloc (.cells #[.int .u32 0, .int .u32 0, .int .u32 0, .int .u32 0, .int .u32 0, .int .u32 0, .int .u32 0, .int .u32 0, .int .u32 0, .int .u32 0, .int .u32 0, .int .u32 0, .int .u32 0, .int .u32 0, .int .u32 0, .int .u32 0, .int .u32 0, .int .u32 0, .int .u32 0, .int .u32 0, .int .u32 0, .int .u32 0, .int .u32 0, .int .u32 0, .int .u32 0, .int .u32 0, .int .u32 0, .int .u32 0, .int .u32 0, .int .u32 0, .int .u32 0, .int .u32 0] 41)).setRow w1.heap.size (arr (pw (2 ^ 0)))) := Doubled.start hb1 _ _ rfl
  go_frame
  go_loopw [0, 1] (fun u v wr => ∃ (j z : Nat) (y : W32), z = n / 2 ^ j ∧ y = rep b8 (n % 2 ^ j) c ∧ u = .int .i64 (z : Int) ∧ v = .int .u32 (y.toNat : Int) ∧ Doubled w w1.heap.size j wr) (fun u _ _ => (intOf u).toNat)
  case atStart => exact ⟨0, n, c, by simp, by simp [Nat.mod_one, rep], rfl, rfl, hd⟩
  case round =>
    obtain ⟨j, z, y, hz, hy, rfl, rfl, hr⟩ := hrel
    have hzn : (z : Int) < 9223372036854775808 := by
      have : z ≤ n := by rw [hz]; exact Nat.div_le_self _ _
      omega
    have Hz := Lib.hid hz; clear hz
    have Hy := Lib.hid hy; clear hy
    have Hr := Lib.hid hr; clear hr
    by_cases h0 : 0 < z
    · by_cases h1 : z % 2 = 1
      · have hodd : ((z : Int) % 2 == 1) = true := by rw [beq_iff_eq]; omega
        have H1 := Lib.hid h1; clear h1
        go_wp2_with (refine wpList_load_row (o := ⟨some 17, _, _, _, _, _⟩) rfl 41 (.tmp 7) rfl w1.heap.size rfl 41 (arr (pw (2 ^ j))) (0, 0) _ Hr.out.row Tryd.underlying41 rfl (size_arr _) ?_)
        go_wp2_with fail
        refine (together_any _ y _).mono ?_; rintro e w2 ⟨rfl, hb2⟩
        have Hr2 := Lib.hid (Hr.out.later hb2); clear hb2
        go_wp2_with fail
        refine (ofBits_twice (pw (2 ^ j)) w1.heap.size 41 (0, 0) _ Hr2.out.row).mono ?_; rintro e w3 ⟨rfl, hb3⟩
        rw [pw_twice]
        have Hr3 := Lib.hid (Hr2.out.later hb3); clear hb3
        go_wp2_with (refine wpList_store_row (o := ⟨none, _, _, _, _, _⟩) rfl 41 (.tmp 7) (.tmp 21) rfl w1.heap.size (arr (pw (2 ^ (j + 1)))) rfl rfl 41 _ Hr3.out.row (size_arr _) (by rw [arr_size, arr_size]) (arr_one _) ?_)
        go_wp2_with fail
        go_roundw
        case rel => exact ⟨j + 1, z / 2, _, by rw [Nat.pow_succ, ← Nat.div_div_eq_div_mul, Hz.out], by rw [pw_tog, Hy.out, half_odd n j z Hz.out H1.out], by go_num, rfl, Hr3.out.next⟩
        case measure => simp [intOf]; omega
      · have hodd : ((z : Int) % 2 == 1) = false := by rw [beq_eq_false_iff_ne]; omega
        have H1 := Lib.hid h1; clear h1
        go_wp2_with fail
        refine (ofBits_twice (pw (2 ^ j)) w1.heap.size 41 (0, 0) _ Hr.out.row).mono ?_; rintro e w3 ⟨rfl, hb3⟩
        rw [pw_twice]
        have Hr3 := Lib.hid (Hr.out.later hb3); clear hb3
        go_wp2_with (refine wpList_store_row (o := ⟨none, _, _, _, _, _⟩) rfl 41 (.tmp 7) (.tmp 21) rfl w1.heap.size (arr (pw (2 ^ (j + 1)))) rfl rfl 41 _ Hr3.out.row (size_arr _) (by rw [arr_size, arr_size]) (arr_one _) ?_)
        go_wp2_with fail
        go_roundw
        case rel => exact ⟨j + 1, z / 2, _, by rw [Nat.pow_succ, ← Nat.div_div_eq_div_mul, Hz.out], by rw [Hy.out, half_even n j z Hz.out H1.out], by go_num, rfl, Hr3.out.next⟩
        case measure => simp [intOf]; omega
    · obtain rfl : z = 0 := by omega
      go_wp2_with fail
      go_ret
      exact ⟨ret_w (by rw [Hy.out, half_end n j 0 Hz.out rfl]), Hr.out.below⟩

set_option maxHeartbeats 400000 in
set_option maxRecDepth 20000 in
theorem times_none (n : Int) (hn : ¬ 0 < n) (h1 : -9223372036854775808 ≤ n) (c : W32) (w : World) (h : Nt w) :
    Calls Tryd.prog 26 #[.int .i64 n, .int .u32 (c.toNat : Int), .func (.func 27) #[] #[]] w fun e w' => e = .returned (.int .u32 (c.toNat : Int)) ∧ Below w.heap.size w w' := by
  go_enter Tryd.func26, Tryd.ntmps26
  go_wp2_with fail
  refine (ofBits_nought _ h).mono ?_; rintro e w1 ⟨rfl, hb1⟩
  rw [pw_once]
  go_wp2_with (refine wpList_store_row (o := ⟨none, _, _, _, _, _⟩) rfl 41 (.tmp 7) (.tmp 9) rfl w1.heap.size (arr (pw (2 ^ 0))) rfl rfl 41 _ (heap_alloc_new w1 _) (size_arr _) (by rw [arr_size]; rfl) (arr_one _) ?_)
  have hd : Doubled w w1.heap.size 0 ((w1.alloc (.cells #[.int .u32 0, .int .u32 0, .int .u32 0, .int .u32 0, .int .u32 0, .int .u32 0, .int .u32 0, .int .u32 0, .int .u32 0, .int .u32 0, .int .u32 0, .int .u32 0, .int .u32 0, .int .u32 0, .int .u32 0, .int .u32 0, .int .u32 0, .int .u32 0, .int .u32 0, .int .u32 0, .int .u32 0, .int .u32 0, .int .u32 0, .int .u32 0, .int .u32 0, .int .u32 0, .int .u32 0, .int .u32 0, .int .u32 0, .int .u32 0, .int .u32 0, .int .u32 0] 41)).setRow w1.heap.size (arr (pw (2 ^ 0)))) := Doubled.start hb1 _ _ rfl
  go_frame
  go_loopw [0, 1] (fun u v wr => u = .int .i64 n ∧ v = .int .u32 (c.toNat : Int) ∧ Doubled w w1.heap.size 0 wr) (fun u _ _ => 0)
  case atStart => exact ⟨rfl, rfl, hd⟩
  case round =>
    obtain ⟨rfl, rfl, hr⟩ := hrel
    go_wp2_with fail
    go_ret
    exact ⟨rfl, hr.below⟩

set_option maxHeartbeats 400000 in
set_option maxRecDepth 20000 in
/-- So many noughts behind the register, none where the number is below 0. -/
theorem behind_any (n : Int) (h1 : -9223372036854775808 ≤ n) (h2 : n < 9223372036854775808) (z : Int) (c : W32) (hz : z = (c.toNat : Int)) (w : World) (h : Nt w) :
    Calls Tryd.prog 23 #[.int .u32 z, .int .i64 n] w fun e w' => e = .returned (.int .u32 ((rep b8 n.toNat c).toNat : Int)) ∧ Below w.heap.size w w' := by
  subst hz
  by_cases hn : 0 < n
  · obtain ⟨k, rfl⟩ := Int.eq_ofNat_of_zero_le (show 0 ≤ n by omega)
    rw [Int.toNat_natCast]
    go_enter Tryd.func23, Tryd.ntmps23
    go_wp2_with fail
    refine (times_some k h2 c _ h).mono ?_; rintro e w1 ⟨rfl, hb1⟩
    go_wp2_with fail
    go_ret
    exact ⟨rfl, hb1⟩
  · rw [show n.toNat = 0 from by omega, rep]
    go_enter Tryd.func23, Tryd.ntmps23
    go_wp2_with fail
    refine (times_none n (by omega) h1 c _ h).mono ?_; rintro e w1 ⟨rfl, hb1⟩
    go_wp2_with fail
    go_ret
    exact ⟨rfl, hb1⟩
end Go.Proofs.YtpmjpagmddjjaaaDoor
