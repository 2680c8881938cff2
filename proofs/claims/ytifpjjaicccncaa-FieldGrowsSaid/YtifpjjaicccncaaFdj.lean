/-
  The statements' own 'reckons' (the page's examples) answers true; FieldMuls, FieldPowers, FieldHolds return true, whatever their arguments. No condition.
-/
import Derived.Test.YtifpjjaicccncaaFdi
namespace Go.Proofs.Ytifpjjaicccncaa
open Go.RowKit
set_option linter.unusedVariables false

/-- In a call that began in w0: a field at blocks F, T of its own; what lay in memory lies there still. -/
structure In (w0 : World) (F T : Nat) (w : World) : Prop where
  below : Below w0.heap.size w0 w
  fld : Fld w F T
  tb : w0.heap.size ≤ T
theorem In.new {w0 w w' : World} {F T : Nat} (hf : Fld w' F T) (hb : Below w.heap.size w w') (h0 : Below w0.heap.size w0 w) (hT : w0.heap.size ≤ T) : In w0 F T w' := ⟨h0.trans (hb.mono h0.size), hf, hT⟩
theorem In.next {w0 w w' : World} {F T : Nat} (h : In w0 F T w) (hf : Fld1 w' F T) (hr : Fr (Ft T) w w') : In w0 F T w' :=
  ⟨h.below.trans (hr.below h.below.size (by rintro k rfl; exact h.tb)), hf.fld, h.tb⟩
theorem In.later {w0 w w' : World} {F T : Nat} (h : In w0 F T w) (hb : Below w.heap.size w w') : In w0 F T w' := ⟨h.below.trans (hb.mono h.below.size), h.fld.later hb, h.tb⟩

theorem ex_mul : gm 2 128 = 29 := by decide +kernel
theorem ex_div : gd 3 3 = 1 := gm_ginv 3 (by decide)
theorem ex_pow : gz 2 255 = 1 := rfl

theorem mul_at (x y : Int) (F T : Nat) (u v : UInt8) (hx : x = (u.toNat : Int)) (hy : y = (v.toNat : Int)) (w : World) (h : Fld w F T) :
    Calls Try.prog 12 #[.pointer (some ⟨F, 0, none⟩), .int .u8 x, .int .u8 y] w (OnFld F T w (.int .u8 ((gm u v).toNat : Int))) := by
  subst hx; subst hy
  exact mul_any F T u v w h
theorem div_at (x y : Int) (F T : Nat) (u v : UInt8) (hx : x = (u.toNat : Int)) (hy : y = (v.toNat : Int)) (w : World) (h : Fld w F T) :
    Calls Try.prog 10 #[.pointer (some ⟨F, 0, none⟩), .int .u8 x, .int .u8 y] w (OnFld F T w (divV u v)) := by
  subst hx; subst hy
  exact div_any F T u v w h
theorem pow_at (x : Int) (F T : Nat) (u : UInt8) (hx : x = (u.toNat : Int)) (n : Int) (hn1 : -9223372036854775808 ≤ n) (hn2 : n < 9223372036854775808) (w : World) (h : Fld w F T) :
    Calls Try.prog 15 #[.pointer (some ⟨F, 0, none⟩), .int .u8 x, .int .i64 n] w (OnFld F T w (powV u n)) := by
  subst hx
  exact pow_any F T u n hn1 hn2 w h
theorem ex_divV : divV 3 3 = .tuple #[.int .u8 1, .int .i64 0] := by rw [divV, if_neg (by decide), ex_div]; rfl
theorem ex_powV : powV 2 255 = .tuple #[.int .u8 1, .int .i64 0] := by rw [powV_of (by decide), ex_pow]; rfl

set_option maxRecDepth 20000 in
set_option maxHeartbeats 800000 in
theorem reckons_any (w : World) : Calls Try.prog 14 #[] w (SaysTrue w) := by
  go_enter Try.func14, Try.ntmps14
  go_wp2_with fail
  refine (new_any _).mono ?_; rintro e w1 ⟨rfl, hf, hb⟩
  have I1 := Lib.hid (In.new hf hb (Below.refl _ _) (Nat.le_refl _)); clear hf hb
  go_wp2_with fail
  refine (div_at 3 3 _ _ 3 3 rfl rfl _ I1.out.fld).mono ?_; rintro e w2 ⟨rfl, hf, hr⟩
  have I2 := Lib.hid (I1.out.next hf hr); clear hf hr
  rw [ex_divV]
  go_wp2_with fail
  refine (pow_at 2 _ _ 2 rfl 255 (by decide) (by decide) _ I2.out.fld).mono ?_; rintro e w3 ⟨rfl, hf, hr⟩
  have I3 := Lib.hid (I2.out.next hf hr); clear hf hr
  rw [ex_powV]
  go_wp2_with fail
  refine (mul_at 2 128 _ _ 2 128 rfl rfl _ I3.out.fld).mono ?_; rintro e w4 ⟨rfl, hf, hr⟩
  have I4 := Lib.hid (I3.out.next hf hr); clear hf hr
  rw [ex_mul]
  go_wp2_with fail
  go_ret
  exact ⟨rfl, I4.out.below⟩

set_option maxRecDepth 20000 in
set_option maxHeartbeats 800000 in
theorem fieldMuls_walk (u v : UInt8) (w : World) : Calls Try.prog 3 #[.int .u8 (u.toNat : Int), .int .u8 (v.toNat : Int)] w (SaysTrue w) := by
  obtain ⟨x, g, hd⟩ : ∃ x g, divV u v = .tuple #[.int .u8 x, .int .i64 g] := by
    unfold divV
    split
    · exact ⟨_, _, rfl⟩
    · exact ⟨_, _, rfl⟩
  have Hd := Lib.hid hd; clear hd
  go_enter Try.func3, Try.ntmps3
  go_wp2_with fail
  refine (new_any _).mono ?_; rintro e w1 ⟨rfl, hf, hb⟩
  have I1 := Lib.hid (In.new hf hb (Below.refl _ _) (Nat.le_refl _)); clear hf hb
  go_wp2_with fail
  refine (div_at _ _ _ _ u v rfl rfl _ I1.out.fld).mono ?_; rintro e w2 ⟨rfl, hf, hr⟩
  have I2 := Lib.hid (I1.out.next hf hr); clear hf hr
  rw [Hd.out]
  go_wp2_with fail
  refine (rdiv_any u v _).mono ?_; rintro e w' ⟨rfl, rfl⟩
  rw [Hd.out]
  go_wp2_with fail
  refine (mul_any _ _ u v _ I2.out.fld).mono ?_; rintro e w3 ⟨rfl, hf, hr⟩
  have I3 := Lib.hid (I2.out.next hf hr); clear hf hr
  go_wp2_with fail
  refine (rmul_any u v _).mono ?_; rintro e w' ⟨rfl, rfl⟩
  go_wp2_with fail
  refine (reckons_any _).mono ?_; rintro e w4 ⟨rfl, hb⟩
  have I4 := Lib.hid (I3.out.later hb); clear hb
  go_wp2_with fail
  go_ret
  exact ⟨rfl, I4.out.below⟩

set_option maxRecDepth 20000 in
set_option maxHeartbeats 800000 in
theorem fieldPowers_walk (u : UInt8) (n : Int) (hn1 : -9223372036854775808 ≤ n) (hn2 : n < 9223372036854775808) (w : World) : Calls Try.prog 4 #[.int .u8 (u.toNat : Int), .int .i64 n] w (SaysTrue w) := by
  obtain ⟨x, g, hd⟩ : ∃ x g, powV u n = .tuple #[.int .u8 x, .int .i64 g] := by
    unfold powV
    repeat' split
    all_goals exact ⟨_, _, rfl⟩
  have Hd := Lib.hid hd; clear hd
  go_enter Try.func4, Try.ntmps4
  go_wp2_with fail
  refine (new_any _).mono ?_; rintro e w1 ⟨rfl, hf, hb⟩
  have I1 := Lib.hid (In.new hf hb (Below.refl _ _) (Nat.le_refl _)); clear hf hb
  go_wp2_with fail
  refine (pow_any _ _ u n hn1 hn2 _ I1.out.fld).mono ?_; rintro e w2 ⟨rfl, hf, hr⟩
  have I2 := Lib.hid (I1.out.next hf hr); clear hf hr
  rw [Hd.out]
  go_wp2_with fail
  refine (rpow_any u n hn1 hn2 _).mono ?_; rintro e w' ⟨rfl, rfl⟩
  rw [Hd.out]
  go_wp2_with fail
  refine (reckons_any _).mono ?_; rintro e w4 ⟨rfl, hb⟩
  have I4 := Lib.hid (I2.out.later hb); clear hb
  go_wp2_with fail
  go_ret
  exact ⟨rfl, I4.out.below⟩
end Go.Proofs.Ytifpjjaicccncaa
