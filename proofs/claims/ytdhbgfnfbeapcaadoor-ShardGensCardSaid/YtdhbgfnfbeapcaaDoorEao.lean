/-
  The statement's function ShardGens returns true, whatever its arguments. Condition: the table reads as the row lists it ('Nt'). (Written by gen_eao.py.)
-/
import Derived.Test.YtdhbgfnfbeapcaaDoorEan
namespace Go.Proofs.YtdhbgfnfbeapcaaDoor
open Go.RowKit Go.Proofs
set_option linter.unusedVariables false

theorem genE_two (a : Nat) (n : Int) : genE a n = 0 ∨ genE a n = 2 := by
  unfold genE
  split
  · exact .inl rfl
  · exact .inr rfl
set_option maxRecDepth 20000
set_option maxHeartbeats 8000000
theorem shardGens_walk (a : Nat) (n : Int) (b : Nat) (m : Int) (ha : a < 18446744073709551616) (n1 : -9223372036854775808 ≤ n) (n2 : n < 9223372036854775808) (hb : b < 18446744073709551616) (m1 : -9223372036854775808 ≤ m) (m2 : m < 9223372036854775808) (w : World) (hN : Nt w) :
    Calls Tryd.prog 6 #[.int .u64 (a : Int), .int .i64 n, .int .u64 (b : Int), .int .i64 m] w (SaysTrue w) := by
  have HN := Lib.hid hN
  clear hN
  obtain ⟨X, hX⟩ : ∃ X, genN a n = X := ⟨_, rfl⟩
  obtain ⟨Z, hZ⟩ : ∃ Z, genN b m = Z := ⟨_, rfl⟩
  have HXl := Lib.hid (show X < 18446744073709551616 by rw [← hX]; exact genN_lt a n)
  have HZl := Lib.hid (show Z < 18446744073709551616 by rw [← hZ]; exact genN_lt b m)
  have HX := Lib.hid hX
  have HZ := Lib.hid hZ
  rcases genE_two a n with hE | hE
  · have HE := Lib.hid hE
    rcases genE_two b m with hG | hG
    · have HG := Lib.hid hG
      have q1 := gen_fine hE
      have q2 := gen_fine hG
      have e1 := hX.symm.trans (genN_fine hE)
      have e2 := hZ.symm.trans (genN_fine hG)
      have HXe := Lib.hid (show X / 1048576 = a by omega)
      have HZe := Lib.hid (show Z / 1048576 = b by omega)
      clear hX hZ hE hG
      by_cases h1 : a < b
      · have d1 : (a : Int) < (b : Int) := by omega
        have d2 : (X : Int) < (Z : Int) := by omega
        clear h1 e1 e2 q1 q2
        go_enter Tryd.func6, Tryd.ntmps6
        go_wp2_with fail
        refine (gen_any a n ha n1 n2 w).mono ?_; rintro e w' ⟨rfl, hw'⟩
        obtain rfl : w = w' := hw'
        rw [HX.out, HE.out]
        go_wp2_with fail
        refine (rgen_any a n ha n1 n2 w).mono ?_; rintro e w' ⟨rfl, hw'⟩
        obtain rfl : w = w' := hw'
        rw [HX.out, HE.out]
        go_wp2_with fail
        refine (gen_any b m hb m1 m2 w).mono ?_; rintro e w' ⟨rfl, hw'⟩
        obtain rfl : w = w' := hw'
        rw [HZ.out, HG.out]
        go_wp2_with fail
        refine (epoch_any X HXl.out w).mono ?_; rintro e w' ⟨rfl, hw'⟩
        obtain rfl : w = w' := hw'
        rw [HXe.out]
        go_wp2_with fail
        refine (epoch_any Z HZl.out w).mono ?_; rintro e w' ⟨rfl, hw'⟩
        obtain rfl : w = w' := hw'
        rw [HZe.out]
        go_wp2_with fail
        refine (lies_any w HN.out).mono ?_; rintro e w1 ⟨rfl, hb1⟩
        go_wp2_with fail
        go_ret
        exact ⟨rfl, hb1⟩
      · have d1 : ¬ (a : Int) < (b : Int) := by omega
        by_cases h2 : a = b
        · subst h2
          by_cases h3 : n < m
          · have d2 : (X : Int) < (Z : Int) := by omega
            clear h1 e1 e2 q1 q2
            go_enter Tryd.func6, Tryd.ntmps6
            go_wp2_with fail
            refine (gen_any a n ha n1 n2 w).mono ?_; rintro e w' ⟨rfl, hw'⟩
            obtain rfl : w = w' := hw'
            rw [HX.out, HE.out]
            go_wp2_with fail
            refine (rgen_any a n ha n1 n2 w).mono ?_; rintro e w' ⟨rfl, hw'⟩
            obtain rfl : w = w' := hw'
            rw [HX.out, HE.out]
            go_wp2_with fail
            refine (gen_any a m hb m1 m2 w).mono ?_; rintro e w' ⟨rfl, hw'⟩
            obtain rfl : w = w' := hw'
            rw [HZ.out, HG.out]
            go_wp2_with fail
            refine (epoch_any X HXl.out w).mono ?_; rintro e w' ⟨rfl, hw'⟩
            obtain rfl : w = w' := hw'
            rw [HXe.out]
            go_wp2_with fail
            refine (epoch_any Z HZl.out w).mono ?_; rintro e w' ⟨rfl, hw'⟩
            obtain rfl : w = w' := hw'
            rw [HZe.out]
            go_wp2_with fail
            refine (lies_any w HN.out).mono ?_; rintro e w1 ⟨rfl, hb1⟩
            go_wp2_with fail
            go_ret
            exact ⟨rfl, hb1⟩
          · have d2 : ¬ (X : Int) < (Z : Int) := by omega
            clear h1 e1 e2 q1 q2
            go_enter Tryd.func6, Tryd.ntmps6
            go_wp2_with fail
            refine (gen_any a n ha n1 n2 w).mono ?_; rintro e w' ⟨rfl, hw'⟩
            obtain rfl : w = w' := hw'
            rw [HX.out, HE.out]
            go_wp2_with fail
            refine (rgen_any a n ha n1 n2 w).mono ?_; rintro e w' ⟨rfl, hw'⟩
            obtain rfl : w = w' := hw'
            rw [HX.out, HE.out]
            go_wp2_with fail
            refine (gen_any a m hb m1 m2 w).mono ?_; rintro e w' ⟨rfl, hw'⟩
            obtain rfl : w = w' := hw'
            rw [HZ.out, HG.out]
            go_wp2_with fail
            refine (epoch_any X HXl.out w).mono ?_; rintro e w' ⟨rfl, hw'⟩
            obtain rfl : w = w' := hw'
            rw [HXe.out]
            go_wp2_with fail
            refine (epoch_any Z HZl.out w).mono ?_; rintro e w' ⟨rfl, hw'⟩
            obtain rfl : w = w' := hw'
            rw [HZe.out]
            go_wp2_with fail
            refine (lies_any w HN.out).mono ?_; rintro e w1 ⟨rfl, hb1⟩
            go_wp2_with fail
            go_ret
            exact ⟨rfl, hb1⟩
        · have d3 : ((a : Int) == (b : Int)) = false := by rw [beq_eq_false_iff_ne]; omega
          have d2 : ¬ (X : Int) < (Z : Int) := by omega
          clear h1 h2 e1 e2 q1 q2
          go_enter Tryd.func6, Tryd.ntmps6
          go_wp2_with fail
          refine (gen_any a n ha n1 n2 w).mono ?_; rintro e w' ⟨rfl, hw'⟩
          obtain rfl : w = w' := hw'
          rw [HX.out, HE.out]
          go_wp2_with fail
          refine (rgen_any a n ha n1 n2 w).mono ?_; rintro e w' ⟨rfl, hw'⟩
          obtain rfl : w = w' := hw'
          rw [HX.out, HE.out]
          go_wp2_with fail
          refine (gen_any b m hb m1 m2 w).mono ?_; rintro e w' ⟨rfl, hw'⟩
          obtain rfl : w = w' := hw'
          rw [HZ.out, HG.out]
          go_wp2_with fail
          refine (epoch_any X HXl.out w).mono ?_; rintro e w' ⟨rfl, hw'⟩
          obtain rfl : w = w' := hw'
          rw [HXe.out]
          go_wp2_with fail
          refine (epoch_any Z HZl.out w).mono ?_; rintro e w' ⟨rfl, hw'⟩
          obtain rfl : w = w' := hw'
          rw [HZe.out]
          go_wp2_with fail
          refine (lies_any w HN.out).mono ?_; rintro e w1 ⟨rfl, hb1⟩
          go_wp2_with fail
          go_ret
          exact ⟨rfl, hb1⟩
    · have HG := Lib.hid hG
      clear hX hZ hE hG
      go_enter Tryd.func6, Tryd.ntmps6
      go_wp2_with fail
      refine (gen_any a n ha n1 n2 w).mono ?_; rintro e w' ⟨rfl, hw'⟩
      obtain rfl : w = w' := hw'
      rw [HX.out, HE.out]
      go_wp2_with fail
      refine (rgen_any a n ha n1 n2 w).mono ?_; rintro e w' ⟨rfl, hw'⟩
      obtain rfl : w = w' := hw'
      rw [HX.out, HE.out]
      go_wp2_with fail
      refine (gen_any b m hb m1 m2 w).mono ?_; rintro e w' ⟨rfl, hw'⟩
      obtain rfl : w = w' := hw'
      rw [HZ.out, HG.out]
      go_wp2_with fail
      refine (lies_any w HN.out).mono ?_; rintro e w1 ⟨rfl, hb1⟩
      go_wp2_with fail
      go_ret
      exact ⟨rfl, hb1⟩
  · have HE := Lib.hid hE
    obtain ⟨G, hG⟩ : ∃ G, genE b m = G := ⟨_, rfl⟩
    have HG := Lib.hid hG
    clear hX hZ hE hG
    go_enter Tryd.func6, Tryd.ntmps6
    go_wp2_with fail
    refine (gen_any a n ha n1 n2 w).mono ?_; rintro e w' ⟨rfl, hw'⟩
    obtain rfl : w = w' := hw'
    rw [HX.out, HE.out]
    go_wp2_with fail
    refine (rgen_any a n ha n1 n2 w).mono ?_; rintro e w' ⟨rfl, hw'⟩
    obtain rfl : w = w' := hw'
    rw [HX.out, HE.out]
    go_wp2_with fail
    refine (gen_any b m hb m1 m2 w).mono ?_; rintro e w' ⟨rfl, hw'⟩
    obtain rfl : w = w' := hw'
    rw [HZ.out, HG.out]
    go_wp2_with fail
    refine (lies_any w HN.out).mono ?_; rintro e w1 ⟨rfl, hb1⟩
    go_wp2_with fail
    go_ret
    exact ⟨rfl, hb1⟩
end Go.Proofs.YtdhbgfnfbeapcaaDoor
