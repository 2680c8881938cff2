/-
  FieldHolds, FieldGrows return true, whatever their arguments. No condition. (Written by gen_fdk.py.)
-/
import Derived.Test.YtifpjjaicccncaaFdj
namespace Go.Proofs.Ytifpjjaicccncaa
open Go.RowKit
set_option linter.unusedVariables false

theorem gm_gd_one (u v : UInt8) : gm u (gd 1 v) = gd u v := by rw [gd, one_gm]; rfl
theorem zero_gd (v : UInt8) : gd 0 v = 0 := zero_gm _
theorem gd_ne {u v : UInt8} (hu : u ≠ 0) (hv : v ≠ 0) : gd u v ≠ 0 := gm_ne hu (ginv_ne hv)
theorem nat_ne {u : UInt8} (h : u ≠ 0) : ((u.toNat : Int) == 0) = false := by
  have : u.toNat ≠ 0 := fun e => h (UInt8.toNat_inj.1 e)
  simp; omega
theorem nat_z {u : UInt8} (h : u = 0) : ((u.toNat : Int) == 0) = true := by rw [h]; rfl
theorem divV_of {u v : UInt8} (h : v ≠ 0) : divV u v = .tuple #[.int .u8 ((gd u v).toNat : Int), .int .i64 0] := if_neg h

set_option maxRecDepth 20000 in
set_option maxHeartbeats 3200000 in
theorem fieldHolds_walk (u v c : UInt8) (w : World) : Calls Try.prog 6 #[.int .u8 (u.toNat : Int), .int .u8 (v.toNat : Int), .int .u8 (c.toNat : Int)] w (SaysTrue w) := by
  have hx := xor_b (gm u v) (gm u c)
  by_cases h0 : v = 0
  · have E1 := Lib.hid (nat_z h0)
    have E0 := Lib.hid h0; clear h0
    go_enter Try.func6, Try.ntmps6
    go_wp2_with fail
    refine (new_any _).mono ?_; rintro e w1 ⟨rfl, hf, hb⟩
    have I1 := Lib.hid (In.new hf hb (Below.refl _ _) (Nat.le_refl _)); clear hf hb
    go_wp2_with fail
    have hh := mul_any _ _ u v _ I1.out.fld
    refine hh.mono ?_; clear hh; rintro e w2 ⟨rfl, hf, hr⟩
    have I2 := Lib.hid (I1.out.next hf hr); clear hf hr
    go_wp2_with fail
    have hh := mul_any _ _ v u _ I2.out.fld
    refine hh.mono ?_; clear hh; rintro e w3 ⟨rfl, hf, hr⟩
    have I3 := Lib.hid (I2.out.next hf hr); clear hf hr
    rw [gm_comm v u]
    go_wp2_with fail
    have hh := mul_any _ _ u v _ I3.out.fld
    refine hh.mono ?_; clear hh; rintro e w4 ⟨rfl, hf, hr⟩
    have I4 := Lib.hid (I3.out.next hf hr); clear hf hr
    go_wp2_with fail
    have hh := mul_any _ _ (gm u v) c _ I4.out.fld
    refine hh.mono ?_; clear hh; rintro e w5 ⟨rfl, hf, hr⟩
    have I5 := Lib.hid (I4.out.next hf hr); clear hf hr
    go_wp2_with fail
    have hh := mul_any _ _ v c _ I5.out.fld
    refine hh.mono ?_; clear hh; rintro e w6 ⟨rfl, hf, hr⟩
    have I6 := Lib.hid (I5.out.next hf hr); clear hf hr
    go_wp2_with fail
    have hh := mul_any _ _ u (gm v c) _ I6.out.fld
    refine hh.mono ?_; clear hh; rintro e w7 ⟨rfl, hf, hr⟩
    have I7 := Lib.hid (I6.out.next hf hr); clear hf hr
    rw [← gm_assoc]
    go_wp2_with fail
    have hh := mul_at _ _ _ _ u (v ^^^ c) rfl (xor_b v c) _ I7.out.fld
    refine hh.mono ?_; clear hh; rintro e w8 ⟨rfl, hf, hr⟩
    have I8 := Lib.hid (I7.out.next hf hr); clear hf hr
    rw [gm_xor]
    go_wp2_with fail
    have hh := mul_any _ _ u v _ I8.out.fld
    refine hh.mono ?_; clear hh; rintro e w9 ⟨rfl, hf, hr⟩
    have I9 := Lib.hid (I8.out.next hf hr); clear hf hr
    go_wp2_with fail
    have hh := mul_any _ _ u c _ I9.out.fld
    refine hh.mono ?_; clear hh; rintro e w10 ⟨rfl, hf, hr⟩
    have I10 := Lib.hid (I9.out.next hf hr); clear hf hr
    go_wp2_with fail
    have hh := mul_at _ 1 _ _ u 1 rfl rfl _ I10.out.fld
    refine hh.mono ?_; clear hh; rintro e w11 ⟨rfl, hf, hr⟩
    have I11 := Lib.hid (I10.out.next hf hr); clear hf hr
    rw [gm_one]
    go_wp2_with fail
    have hh := mul_at _ 0 _ _ u 0 rfl rfl _ I11.out.fld
    refine hh.mono ?_; clear hh; rintro e w12 ⟨rfl, hf, hr⟩
    have I12 := Lib.hid (I11.out.next hf hr); clear hf hr
    rw [gm_zero]
    go_wp2_with fail
    have hh := div_any _ _ u v _ I12.out.fld
    refine hh.mono ?_; clear hh; rintro e w13 ⟨rfl, hf, hr⟩
    have I13 := Lib.hid (I12.out.next hf hr); clear hf hr
    rw [if_pos E0.out]
    have e1 := E1.out
    go_wp2_with fail
    refine (reckons_any _).mono ?_; rintro e w14 ⟨rfl, hb⟩
    have I14 := Lib.hid (I13.out.later hb); clear hb
    go_wp2_with fail
    go_ret
    exact ⟨rfl, I14.out.below⟩
  have E1 := Lib.hid (nat_ne h0)
  have hg := gd_gm (u := u) h0
  have hg1 := gd_gm (u := 1) h0
  have hg2 := gm_gd_one u v
  by_cases hu : u = 0
  · have E2 := Lib.hid (nat_z hu)
    have E3 := Lib.hid (nat_z (show gd u v = 0 from by rw [hu, zero_gd]))
    clear hu
    go_enter Try.func6, Try.ntmps6
    go_wp2_with fail
    refine (new_any _).mono ?_; rintro e w1 ⟨rfl, hf, hb⟩
    have I1 := Lib.hid (In.new hf hb (Below.refl _ _) (Nat.le_refl _)); clear hf hb
    go_wp2_with fail
    have hh := mul_any _ _ u v _ I1.out.fld
    refine hh.mono ?_; clear hh; rintro e w2 ⟨rfl, hf, hr⟩
    have I2 := Lib.hid (I1.out.next hf hr); clear hf hr
    go_wp2_with fail
    have hh := mul_any _ _ v u _ I2.out.fld
    refine hh.mono ?_; clear hh; rintro e w3 ⟨rfl, hf, hr⟩
    have I3 := Lib.hid (I2.out.next hf hr); clear hf hr
    rw [gm_comm v u]
    go_wp2_with fail
    have hh := mul_any _ _ u v _ I3.out.fld
    refine hh.mono ?_; clear hh; rintro e w4 ⟨rfl, hf, hr⟩
    have I4 := Lib.hid (I3.out.next hf hr); clear hf hr
    go_wp2_with fail
    have hh := mul_any _ _ (gm u v) c _ I4.out.fld
    refine hh.mono ?_; clear hh; rintro e w5 ⟨rfl, hf, hr⟩
    have I5 := Lib.hid (I4.out.next hf hr); clear hf hr
    go_wp2_with fail
    have hh := mul_any _ _ v c _ I5.out.fld
    refine hh.mono ?_; clear hh; rintro e w6 ⟨rfl, hf, hr⟩
    have I6 := Lib.hid (I5.out.next hf hr); clear hf hr
    go_wp2_with fail
    have hh := mul_any _ _ u (gm v c) _ I6.out.fld
    refine hh.mono ?_; clear hh; rintro e w7 ⟨rfl, hf, hr⟩
    have I7 := Lib.hid (I6.out.next hf hr); clear hf hr
    rw [← gm_assoc]
    go_wp2_with fail
    have hh := mul_at _ _ _ _ u (v ^^^ c) rfl (xor_b v c) _ I7.out.fld
    refine hh.mono ?_; clear hh; rintro e w8 ⟨rfl, hf, hr⟩
    have I8 := Lib.hid (I7.out.next hf hr); clear hf hr
    rw [gm_xor]
    go_wp2_with fail
    have hh := mul_any _ _ u v _ I8.out.fld
    refine hh.mono ?_; clear hh; rintro e w9 ⟨rfl, hf, hr⟩
    have I9 := Lib.hid (I8.out.next hf hr); clear hf hr
    go_wp2_with fail
    have hh := mul_any _ _ u c _ I9.out.fld
    refine hh.mono ?_; clear hh; rintro e w10 ⟨rfl, hf, hr⟩
    have I10 := Lib.hid (I9.out.next hf hr); clear hf hr
    go_wp2_with fail
    have hh := mul_at _ 1 _ _ u 1 rfl rfl _ I10.out.fld
    refine hh.mono ?_; clear hh; rintro e w11 ⟨rfl, hf, hr⟩
    have I11 := Lib.hid (I10.out.next hf hr); clear hf hr
    rw [gm_one]
    go_wp2_with fail
    have hh := mul_at _ 0 _ _ u 0 rfl rfl _ I11.out.fld
    refine hh.mono ?_; clear hh; rintro e w12 ⟨rfl, hf, hr⟩
    have I12 := Lib.hid (I11.out.next hf hr); clear hf hr
    rw [gm_zero]
    go_wp2_with fail
    have hh := div_any _ _ u v _ I12.out.fld
    refine hh.mono ?_; clear hh; rintro e w13 ⟨rfl, hf, hr⟩
    have I13 := Lib.hid (I12.out.next hf hr); clear hf hr
    rw [if_neg h0]
    have e1 := E1.out
    go_wp2_with fail
    have hh := div_at 1 _ _ _ 1 v rfl rfl _ I13.out.fld
    refine hh.mono ?_; clear hh; rintro e w14 ⟨rfl, hf, hr⟩
    have I14 := Lib.hid (I13.out.next hf hr); clear hf hr
    rw [divV_of h0]
    go_wp2_with fail
    have hh := mul_any _ _ (gd u v) v _ I14.out.fld
    refine hh.mono ?_; clear hh; rintro e w15 ⟨rfl, hf, hr⟩
    have I15 := Lib.hid (I14.out.next hf hr); clear hf hr
    rw [hg]
    go_wp2_with fail
    have hh := mul_any _ _ u (gd 1 v) _ I15.out.fld
    refine hh.mono ?_; clear hh; rintro e w16 ⟨rfl, hf, hr⟩
    have I16 := Lib.hid (I15.out.next hf hr); clear hf hr
    rw [hg2]
    go_wp2_with fail
    have hh := mul_any _ _ (gd 1 v) v _ I16.out.fld
    refine hh.mono ?_; clear hh; rintro e w17 ⟨rfl, hf, hr⟩
    have I17 := Lib.hid (I16.out.next hf hr); clear hf hr
    rw [hg1]
    have e2 := E2.out
    have e3 := E3.out
    go_wp2_with fail
    refine (reckons_any _).mono ?_; rintro e w18 ⟨rfl, hb⟩
    have I18 := Lib.hid (I17.out.later hb); clear hb
    go_wp2_with fail
    go_ret
    exact ⟨rfl, I18.out.below⟩
  · have E2 := Lib.hid (nat_ne hu)
    have E3 := Lib.hid (nat_ne (gd_ne hu h0))
    go_enter Try.func6, Try.ntmps6
    go_wp2_with fail
    refine (new_any _).mono ?_; rintro e w1 ⟨rfl, hf, hb⟩
    have I1 := Lib.hid (In.new hf hb (Below.refl _ _) (Nat.le_refl _)); clear hf hb
    go_wp2_with fail
    have hh := mul_any _ _ u v _ I1.out.fld
    refine hh.mono ?_; clear hh; rintro e w2 ⟨rfl, hf, hr⟩
    have I2 := Lib.hid (I1.out.next hf hr); clear hf hr
    go_wp2_with fail
    have hh := mul_any _ _ v u _ I2.out.fld
    refine hh.mono ?_; clear hh; rintro e w3 ⟨rfl, hf, hr⟩
    have I3 := Lib.hid (I2.out.next hf hr); clear hf hr
    rw [gm_comm v u]
    go_wp2_with fail
    have hh := mul_any _ _ u v _ I3.out.fld
    refine hh.mono ?_; clear hh; rintro e w4 ⟨rfl, hf, hr⟩
    have I4 := Lib.hid (I3.out.next hf hr); clear hf hr
    go_wp2_with fail
    have hh := mul_any _ _ (gm u v) c _ I4.out.fld
    refine hh.mono ?_; clear hh; rintro e w5 ⟨rfl, hf, hr⟩
    have I5 := Lib.hid (I4.out.next hf hr); clear hf hr
    go_wp2_with fail
    have hh := mul_any _ _ v c _ I5.out.fld
    refine hh.mono ?_; clear hh; rintro e w6 ⟨rfl, hf, hr⟩
    have I6 := Lib.hid (I5.out.next hf hr); clear hf hr
    go_wp2_with fail
    have hh := mul_any _ _ u (gm v c) _ I6.out.fld
    refine hh.mono ?_; clear hh; rintro e w7 ⟨rfl, hf, hr⟩
    have I7 := Lib.hid (I6.out.next hf hr); clear hf hr
    rw [← gm_assoc]
    go_wp2_with fail
    have hh := mul_at _ _ _ _ u (v ^^^ c) rfl (xor_b v c) _ I7.out.fld
    refine hh.mono ?_; clear hh; rintro e w8 ⟨rfl, hf, hr⟩
    have I8 := Lib.hid (I7.out.next hf hr); clear hf hr
    rw [gm_xor]
    go_wp2_with fail
    have hh := mul_any _ _ u v _ I8.out.fld
    refine hh.mono ?_; clear hh; rintro e w9 ⟨rfl, hf, hr⟩
    have I9 := Lib.hid (I8.out.next hf hr); clear hf hr
    go_wp2_with fail
    have hh := mul_any _ _ u c _ I9.out.fld
    refine hh.mono ?_; clear hh; rintro e w10 ⟨rfl, hf, hr⟩
    have I10 := Lib.hid (I9.out.next hf hr); clear hf hr
    go_wp2_with fail
    have hh := mul_at _ 1 _ _ u 1 rfl rfl _ I10.out.fld
    refine hh.mono ?_; clear hh; rintro e w11 ⟨rfl, hf, hr⟩
    have I11 := Lib.hid (I10.out.next hf hr); clear hf hr
    rw [gm_one]
    go_wp2_with fail
    have hh := mul_at _ 0 _ _ u 0 rfl rfl _ I11.out.fld
    refine hh.mono ?_; clear hh; rintro e w12 ⟨rfl, hf, hr⟩
    have I12 := Lib.hid (I11.out.next hf hr); clear hf hr
    rw [gm_zero]
    go_wp2_with fail
    have hh := div_any _ _ u v _ I12.out.fld
    refine hh.mono ?_; clear hh; rintro e w13 ⟨rfl, hf, hr⟩
    have I13 := Lib.hid (I12.out.next hf hr); clear hf hr
    rw [if_neg h0]
    have e1 := E1.out
    go_wp2_with fail
    have hh := div_at 1 _ _ _ 1 v rfl rfl _ I13.out.fld
    refine hh.mono ?_; clear hh; rintro e w14 ⟨rfl, hf, hr⟩
    have I14 := Lib.hid (I13.out.next hf hr); clear hf hr
    rw [divV_of h0]
    go_wp2_with fail
    have hh := mul_any _ _ (gd u v) v _ I14.out.fld
    refine hh.mono ?_; clear hh; rintro e w15 ⟨rfl, hf, hr⟩
    have I15 := Lib.hid (I14.out.next hf hr); clear hf hr
    rw [hg]
    go_wp2_with fail
    have hh := mul_any _ _ u (gd 1 v) _ I15.out.fld
    refine hh.mono ?_; clear hh; rintro e w16 ⟨rfl, hf, hr⟩
    have I16 := Lib.hid (I15.out.next hf hr); clear hf hr
    rw [hg2]
    go_wp2_with fail
    have hh := mul_any _ _ (gd 1 v) v _ I16.out.fld
    refine hh.mono ?_; clear hh; rintro e w17 ⟨rfl, hf, hr⟩
    have I17 := Lib.hid (I16.out.next hf hr); clear hf hr
    rw [hg1]
    have e2 := E2.out
    have e3 := E3.out
    go_wp2_with fail
    refine (reckons_any _).mono ?_; rintro e w18 ⟨rfl, hb⟩
    have I18 := Lib.hid (I17.out.later hb); clear hb
    go_wp2_with fail
    go_ret
    exact ⟨rfl, I18.out.below⟩

set_option maxRecDepth 20000 in
set_option maxHeartbeats 3200000 in
theorem fieldGrows_walk (u : UInt8) (n m : Int) (hn1 : -9223372036854775808 ≤ n) (hn2 : n < 9223372036854775808) (hm1 : -9223372036854775808 ≤ m) (hm2 : m < 9223372036854775808) (w : World) :
    Calls Try.prog 7 #[.int .u8 (u.toNat : Int), .int .i64 n, .int .i64 m] w (SaysTrue w) := by
  by_cases hout : u.toNat = 0 ∨ n < -1000000 ∨ n > 1000000 ∨ m < -1000000 ∨ m > 1000000
  · go_enter Try.func7, Try.ntmps7
    go_wp2_with fail
    all_goals first
      | (exfalso; omega; done)
      | (refine (reckons_any _).mono ?_; rintro e w1 ⟨rfl, hb⟩
         go_wp2_with fail
         go_ret
         exact ⟨rfl, hb⟩)
  have h0 : u ≠ 0 := fun e => hout (.inl (by rw [e]; rfl))
  have e0 := nat_ne h0
  have b1 : ¬ n < -1000000 := fun e => hout (.inr (.inl e))
  have b2 : ¬ n > 1000000 := fun e => hout (.inr (.inr (.inl e)))
  have b3 : ¬ m < -1000000 := fun e => hout (.inr (.inr (.inr (.inl e))))
  have b4 : ¬ m > 1000000 := fun e => hout (.inr (.inr (.inr (.inr e))))
  have d1 : decide (n < -1000000) = false := by simpa using b1
  have d2 : decide (n > 1000000) = false := by simpa using b2
  have d3 : decide (m < -1000000) = false := by simpa using b3
  have d4 : decide (m > 1000000) = false := by simpa using b4
  have g1 := gz_add h0 n m
  have g2 := gz_neg h0 n
  have g3 := gz_one h0
  go_enter Try.func7, Try.ntmps7
  go_wp2_with fail
  refine (new_any _).mono ?_; rintro e w1 ⟨rfl, hf, hb⟩
  have I1 := Lib.hid (In.new hf hb (Below.refl _ _) (Nat.le_refl _)); clear hf hb
  go_wp2_with fail
  have hh := pow_any _ _ u n (by omega) (by omega) _ I1.out.fld
  refine hh.mono ?_; clear hh; rintro e w2 ⟨rfl, hf, hr⟩
  have I2 := Lib.hid (I1.out.next hf hr); clear hf hr
  rw [powV_of h0]
  go_wp2_with fail
  have hh := pow_any _ _ u m (by omega) (by omega) _ I2.out.fld
  refine hh.mono ?_; clear hh; rintro e w3 ⟨rfl, hf, hr⟩
  have I3 := Lib.hid (I2.out.next hf hr); clear hf hr
  rw [powV_of h0]
  go_wp2_with fail
  have hh := pow_any _ _ u (n + m) (by omega) (by omega) _ I3.out.fld
  refine hh.mono ?_; clear hh; rintro e w4 ⟨rfl, hf, hr⟩
  have I4 := Lib.hid (I3.out.next hf hr); clear hf hr
  rw [powV_of h0]
  go_wp2_with fail
  have hh := pow_any _ _ u (-n) (by omega) (by omega) _ I4.out.fld
  refine hh.mono ?_; clear hh; rintro e w5 ⟨rfl, hf, hr⟩
  have I5 := Lib.hid (I4.out.next hf hr); clear hf hr
  rw [powV_of h0]
  go_wp2_with fail
  have hh := pow_any _ _ u 1 (by omega) (by omega) _ I5.out.fld
  refine hh.mono ?_; clear hh; rintro e w6 ⟨rfl, hf, hr⟩
  have I6 := Lib.hid (I5.out.next hf hr); clear hf hr
  rw [powV_of h0, g3]
  go_wp2_with fail
  have hh := mul_any _ _ (gz u n) (gz u m) _ I6.out.fld
  refine hh.mono ?_; clear hh; rintro e w7 ⟨rfl, hf, hr⟩
  have I7 := Lib.hid (I6.out.next hf hr); clear hf hr
  rw [g1]
  go_wp2_with fail
  have hh := mul_any _ _ (gz u n) (gz u (-n)) _ I7.out.fld
  refine hh.mono ?_; clear hh; rintro e w8 ⟨rfl, hf, hr⟩
  have I8 := Lib.hid (I7.out.next hf hr); clear hf hr
  rw [g2]
  go_wp2_with fail
  refine (reckons_any _).mono ?_; rintro e w9 ⟨rfl, hb⟩
  have I9 := Lib.hid (I8.out.later hb); clear hb
  go_wp2_with fail
  go_ret
  exact ⟨rfl, I9.out.below⟩
end Go.Proofs.Ytifpjjaicccncaa
