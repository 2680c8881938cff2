/-
  Contracts of the document's answers of layer 3: Mul, Div, Pow, Scale, Fold, Dot. No condition.
-/
import Derived.Test.YtccnoflgbopjlaaFdg
namespace Go.Proofs.Ytccnoflgbopjlaa
open Go.RowKit
set_option linter.unusedVariables false

theorem ofInt_nat64 (a : Nat) (h : a < 18446744073709551616) : (BitVec.ofInt 64 (a : Int)).toNat = a := by
  rw [BitVec.ofInt_natCast, BitVec.toNat_ofNat]
  exact Nat.mod_eq_of_lt h
theorem i64_xor_nat (a b : Nat) (ha : a < 2147483648) (hb : b < 2147483648) : bits .xor .i64 (a : Int) (b : Int) = ((a ^^^ b : Nat) : Int) := by
  have hx : a ^^^ b < 2 ^ 31 := Nat.xor_lt_two_pow (by omega) (by omega)
  show IntKind.i64.wrap ((BitVec.ofInt 64 (a : Int) ^^^ BitVec.ofInt 64 (b : Int)).toNat : Int) = _
  rw [BitVec.toNat_xor, ofInt_nat64 a (by omega), ofInt_nat64 b (by omega)]
  generalize a ^^^ b = x at hx
  rw [IntKind.wrap_i64]
  omega
theorem bit_test (v : UInt8) (k : Nat) : (((v.toNat : Int) / 2 ^ k).tmod 2 == 1) = v.toBitVec.getLsbD k := by
  have h1 : ((v.toNat : Int) / 2 ^ k) = ((v.toNat / 2 ^ k : Nat) : Int) := by
    rw [show ((2 : Int) ^ k) = ((2 ^ k : Nat) : Int) from by simp]
    rfl
  have h2 : v.toBitVec.getLsbD k = decide (v.toNat / 2 ^ k % 2 = 1) := by
    rw [← BitVec.testBit_toNat, Nat.testBit_eq_decide_div_mod_eq]
    rfl
  rw [h1, h2]
  generalize v.toNat / 2 ^ k = x
  rw [Int.tmod_eq_emod_of_nonneg (by omega)]
  rcases Nat.mod_two_eq_zero_or_one x with h | h
  · have : ((x : Int) % 2) = 0 := by omega
    rw [this, h]
    rfl
  · have : ((x : Int) % 2) = 1 := by omega
    rw [this, h]
    rfl
theorem b8_lt (y : B8) : y.toNat < 256 := y.isLt
theorem bxor_i (y z : B8) : bits .xor .i64 (y.toNat : Int) (z.toNat : Int) = ((y ^^^ z).toNat : Int) := by
  have h1 := b8_lt y
  have h2 := b8_lt z
  rw [i64_xor_nat _ _ (by omega) (by omega), BitVec.toNat_xor]
theorem xt_all : ∀ n : Nat, n < 256 → (2 * n < 256 → (2 * (n : Int)) = ((xt (BitVec.ofNat 8 n)).toNat : Int)) ∧ (256 ≤ 2 * n → bits .xor .i64 (2 * (n : Int)) 285 = ((xt (BitVec.ofNat 8 n)).toNat : Int)) := by decide +kernel
theorem xt_low (z : B8) (h : 2 * (z.toNat : Int) < 256) : 2 * (z.toNat : Int) = ((xt z).toNat : Int) := by
  have := (xt_all z.toNat (b8_lt z)).1 (by omega)
  rwa [BitVec.ofNat_toNat, BitVec.setWidth_eq] at this
theorem xt_high (z : B8) (h : 256 ≤ 2 * (z.toNat : Int)) : bits .xor .i64 (2 * (z.toNat : Int)) 285 = ((xt z).toNat : Int) := by
  have := (xt_all z.toNat (b8_lt z)).2 (by omega)
  rwa [BitVec.ofNat_toNat, BitVec.setWidth_eq] at this

set_option maxRecDepth 20000 in
set_option maxHeartbeats 800000 in
theorem rmul_any (u v : UInt8) (w : World) :
    Calls Try.prog 42 #[.int .u8 (u.toNat : Int), .int .u8 (v.toNat : Int)] w fun e w' => e = .returned (.int .u8 ((gm u v).toNat : Int)) ∧ w' = w := by
  have hv := v.toNat_lt
  have hu := u.toNat_lt
  go_enter Try.func42, Try.ntmps42
  go_wp2_with fail
  go_loopw [5, 6, 7] (fun p x i wr => ∃ (k : Nat) (y z : B8), k ≤ 8 ∧ y = sel (xk u.toBitVec) k v.toBitVec ∧ z = xk u.toBitVec k ∧ i = .int .i64 (k : Int) ∧ p = .int .i64 (y.toNat : Int) ∧ x = .int .i64 (z.toNat : Int) ∧ wr = w) (fun _ _ i _ => 8 - (intOf i).toNat)
  case atStart => exact ⟨0, 0, u.toBitVec, by omega, rfl, rfl, rfl, rfl, rfl, rfl⟩
  case round =>
    obtain ⟨k, y, z, hk, hy, hz, rfl, rfl, rfl, rfl⟩ := hrel
    have hyl := y.isLt
    have hzl := z.isLt
    have Hy := Lib.hid hy; clear hy
    have Hz := Lib.hid hz; clear hz
    by_cases hlt : k < 8
    · have hbt := bit_test v k
      by_cases hb : v.toBitVec.getLsbD k = true
      · rw [hb] at hbt
        go_wp2_with fail
        all_goals
          go_roundw
          case rel =>
            refine ⟨k + 1, y ^^^ z, xt z, by omega, by rw [sel, ← Hy.out, if_pos hb, ← Hz.out], by rw [xk, ← Hz.out], by go_num, by rw [bxor_i], ?_, trivial⟩
            first | (rw [xt_low z (by assumption)]; done) | (rw [xt_high z (by assumption)]; done)
          case measure => simp [intOf]; omega
      · have hb0 : v.toBitVec.getLsbD k = false := by simpa using hb
        rw [hb0] at hbt
        go_wp2_with fail
        all_goals
          go_roundw
          case rel =>
            refine ⟨k + 1, y, xt z, by omega, by rw [sel, ← Hy.out, if_neg hb, bx0], by rw [xk, ← Hz.out], by go_num, rfl, ?_, trivial⟩
            first | (rw [xt_low z (by assumption)]; done) | (rw [xt_high z (by assumption)]; done)
          case measure => simp [intOf]; omega
    · obtain rfl : k = 8 := by omega
      go_wp2_with fail
      go_ret
      exact ⟨ret_b (a := ⟨y⟩) (u8_ext Hy.out), rfl⟩

theorem rmul_at (z : Int) (u v : UInt8) (hz : z = (u.toNat : Int)) (w : World) :
    Calls Try.prog 42 #[.int .u8 z, .int .u8 (v.toNat : Int)] w fun e w' => e = .returned (.int .u8 ((gm u v).toNat : Int)) ∧ w' = w := by
  subst hz
  exact rmul_any u v w

/-- What Div answers. -/
def divV (u v : UInt8) : Value := if v = 0 then .tuple #[.int .u8 0, .int .i64 2] else .tuple #[.int .u8 ((gd u v).toNat : Int), .int .i64 0]
theorem u8_val {k : Nat} {c : UInt8} (h : UInt8.ofNat k = c) (hk : k < 256) : (k : Int) = (c.toNat : Int) := by
  rw [← h, UInt8.toNat_ofNat']
  omega

set_option maxRecDepth 20000 in
set_option maxHeartbeats 800000 in
theorem rdiv_any (u v : UInt8) (w : World) :
    Calls Try.prog 46 #[.int .u8 (u.toNat : Int), .int .u8 (v.toNat : Int)] w fun e w' => e = .returned (divV u v) ∧ w' = w := by
  have hv := v.toNat_lt
  have hu := u.toNat_lt
  by_cases h0 : v = 0
  · subst h0
    rw [divV, if_pos rfl]
    go_enter Try.func46, Try.ntmps46
    go_wp2_with fail
    go_ret2
    exact ⟨rfl, rfl⟩
  · have h0' : v.toNat ≠ 0 := fun e => h0 (UInt8.toNat_inj.1 e)
    have e1 : ((v.toNat : Int) == 0) = false := by simp; omega
    rw [divV, if_neg h0]
    go_enter Try.func46, Try.ntmps46
    go_wp2_with fail
    go_loopw [6] (fun i wr => ∃ k : Nat, k ≤ 256 ∧ i = .int .i64 (k : Int) ∧ (∀ j, j < k → gm (UInt8.ofNat j) v ≠ u) ∧ wr = w) (fun i _ => 256 - (intOf i).toNat)
    case atStart => exact ⟨0, by omega, rfl, fun j hj => absurd hj (by omega), rfl⟩
    case round =>
      obtain ⟨k, hk, rfl, hno, rfl⟩ := hrel
      have Hno := Lib.hid hno; clear hno
      by_cases hlt : k < 256
      · have hkz : (k : Int) = ((UInt8.ofNat k).toNat : Int) := u8_val rfl hlt
        have Hkz := Lib.hid hkz; clear hkz
        go_wp2_with fail
        refine (rmul_at _ (UInt8.ofNat k) v Hkz.out _).mono ?_; rintro e w' ⟨rfl, rfl⟩
        by_cases hit : gm (UInt8.ofNat k) v = u
        · have e2 : (((gm (UInt8.ofNat k) v).toNat : Int) == (u.toNat : Int)) = true := by rw [hit]; simp
          have Hit := Lib.hid hit; clear hit
          go_wp2_with fail
          go_ret2
          exact ⟨by rw [← gd_unique h0 Hit.out, Hkz.out]; rfl, rfl⟩
        · have e2 : (((gm (UInt8.ofNat k) v).toNat : Int) == (u.toNat : Int)) = false := by
            have : (gm (UInt8.ofNat k) v).toNat ≠ u.toNat := fun e => hit (UInt8.toNat_inj.1 e)
            simp; omega
          have Hit := Lib.hid hit; clear hit
          go_wp2_with fail
          go_roundw
          case rel =>
            refine ⟨k + 1, by omega, by go_num, fun j hj => ?_, trivial⟩
            by_cases hjk : j = k
            · subst hjk
              exact Hit.out
            · exact Hno.out j (by omega)
          case measure => simp [intOf]; omega
      · exfalso
        refine Hno.out (gd u v).toNat ?_ ?_
        · have := (gd u v).toNat_lt
          omega
        · rw [UInt8.ofNat_toNat]
          exact gd_gm h0

end Go.Proofs.Ytccnoflgbopjlaa
