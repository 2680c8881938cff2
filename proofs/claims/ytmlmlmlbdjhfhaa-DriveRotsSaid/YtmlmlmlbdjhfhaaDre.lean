/-
  DriveRots over DrvK: it returns true, whatever its arguments. (Written by gen_dre.py.)
-/
import Derived.Test.YtmlmlmlbdjhfhaaDrc
import Derived.Test.YtmlmlmlbdjhfhaaDrd
import Derived.Deep.RegionHeld3
namespace Go.Proofs.Ytmlmlmlbdjhfhaa
open Go.RowKit Go.Proofs
set_option linter.unusedVariables false
set_option linter.unusedSimpArgs false

set_option maxRecDepth 20000 in
set_option maxHeartbeats 3200000 in
theorem driveRots_any {Rep : World → (Nat → Prop) → Nat → Dv → Prop} (DK : DrvK Rep) (n at_ off : Int) (mask : Nat) (c : UInt8) (w : World) (bn : -9223372036854775808 ≤ n ∧ n < 9223372036854775808) (ba : -9223372036854775808 ≤ at_ ∧ at_ < 9223372036854775808) (bo : -9223372036854775808 ≤ off ∧ off < 9223372036854775808) (bm : mask < 4294967296) :
    Calls Try.prog 5 #[.int .i64 n, .int .i64 at_, .int .i64 off, .int .u32 (mask : Int), .int .u8 (c.toNat : Int)] w (SaysTrue w) := by
  by_cases g0 : n < 2
  · go_enter Try.func5, Try.ntmps5
    go_wp2_with fail
    refine (stores9_any DK _).mono ?_; rintro e wz ⟨rfl, hbz⟩
    go_wp2_with fail
    go_ret
    exact ⟨rfl, hbz⟩
  by_cases g1 : 20 < n
  · go_enter Try.func5, Try.ntmps5
    go_wp2_with fail
    refine (stores9_any DK _).mono ?_; rintro e wz ⟨rfl, hbz⟩
    go_wp2_with fail
    go_ret
    exact ⟨rfl, hbz⟩
  by_cases g2 : at_ < 0
  · go_enter Try.func5, Try.ntmps5
    go_wp2_with fail
    refine (stores9_any DK _).mono ?_; rintro e wz ⟨rfl, hbz⟩
    go_wp2_with fail
    go_ret
    exact ⟨rfl, hbz⟩
  by_cases g3 : n ≤ at_
  · go_enter Try.func5, Try.ntmps5
    go_wp2_with fail
    refine (stores9_any DK _).mono ?_; rintro e wz ⟨rfl, hbz⟩
    go_wp2_with fail
    go_ret
    exact ⟨rfl, hbz⟩
  by_cases g4 : off < 0
  · go_enter Try.func5, Try.ntmps5
    go_wp2_with fail
    refine (stores9_any DK _).mono ?_; rintro e wz ⟨rfl, hbz⟩
    go_wp2_with fail
    go_ret
    exact ⟨rfl, hbz⟩
  by_cases g5 : 60 < off
  · go_enter Try.func5, Try.ntmps5
    go_wp2_with fail
    refine (stores9_any DK _).mono ?_; rintro e wz ⟨rfl, hbz⟩
    go_wp2_with fail
    go_ret
    exact ⟨rfl, hbz⟩
  by_cases g6 : (mask : Int) = 0
  · go_enter Try.func5, Try.ntmps5
    go_wp2_with fail
    refine (stores9_any DK _).mono ?_; rintro e wz ⟨rfl, hbz⟩
    go_wp2_with fail
    go_ret
    exact ⟨rfl, hbz⟩
  obtain ⟨M, rfl⟩ : ∃ M : Nat, n = (M : Int) := ⟨n.toNat, by omega⟩
  obtain ⟨P, rfl⟩ : ∃ P : Nat, at_ = (P : Int) := ⟨at_.toNat, by omega⟩
  obtain ⟨O, rfl⟩ : ∃ O : Nat, off = (O : Int) := ⟨off.toNat, by omega⟩
  have hp : P < M := by omega
  have ho : O ≤ 60 := by omega
  have hm : mask ≠ 0 := by omega
  have gge : ¬ (P : Int) ≥ (M : Int) := by omega
  go_enter Try.func5, Try.ntmps5
  go_wp2_with fail
  refine (Lv.new DK (Below.refl _ _) (X := fun _ => False) (fun _ h => h.elim) M (by omega) (by omega)).mono ?_; rintro e w1 ⟨D, rfl, hL, -⟩
  rw [← Dv.laid_zero M c] at hL
  have L1 := Lib.hid hL
  clear hL
  go_wp2_with fail
  go_loopw [12] (fun i wr => ∃ k : Nat, k ≤ M ∧ i = .int .i64 (k : Int) ∧ Lv Rep w wr (fun _ => False) D (Dv.laid M c k)) (fun i _ => M - (intOf i).toNat)
  case atStart => exact ⟨0, by omega, rfl, L1.out⟩
  case round =>
    obtain ⟨k, hk, rfl, hL⟩ := hrel
    have Lr := Lib.hid hL
    clear hL
    by_cases hlt : k < M
    · have hki : (k : Int) < (M : Int) := by omega
      go_wp2_with fail
      refine (full_any c _).mono ?_; rintro e w2 ⟨A2, n2, c2, rfl, hs, hb, -⟩
      have L2 := Lib.hid (Lr.out.later DK hb)
      have S2 := Lib.hid hs
      clear hs hb
      go_wp2_with fail
      refine (L2.out.write DK (k : Int) A2 n2 c2 (full c) (by omega) (by omega) (by simp [Dv.laid]; omega) S2.out).mono ?_; rintro e w3 ⟨he, hL, _⟩
      rw [Dv.laid_writeX hlt] at he
      rw [Dv.laid_write hlt] at hL
      subst he
      have L3 := Lib.hid hL
      clear hL
      go_wp2_with fail
      go_roundw
      case rel => exact ⟨k + 1, by omega, by go_num, L3.out⟩
      case measure => simp [intOf]; omega
    have hkM : k = M := by omega
    have hki : ¬ (k : Int) < (M : Int) := by omega
    have LF := Lib.hid (show Lv Rep w wr (fun _ => False) D (Dv.laid M c M) by have := Lr.out; rwa [hkM] at this)
    clear Lr hkM
    go_wp2_with fail
    refine (LF.out.flush DK (by simp [Dv.laid]; omega)).mono ?_; rintro e w4 ⟨he, hL, _⟩
    rw [Dv.laid_flushX] at he
    rw [Dv.laid_flush] at hL
    subst he
    have L4 := Lib.hid hL
    clear hL LF
    go_wp2_with fail
    refine (L4.out.rot DK (P : Int) (O : Int) mask (by omega) (by omega) (by omega) (by omega) bm).mono ?_; rintro e w5 ⟨he, hL, _⟩
    rw [Dv.whole_rotX hp ho hm] at he
    rw [Dv.whole_rot hp ho hm] at hL
    subst he
    have L5 := Lib.hid hL
    clear hL L4
    go_wp2_with fail
    refine (L5.out.rot DK (P : Int) (O : Int) mask (by omega) (by omega) (by omega) (by omega) bm).mono ?_; rintro e w6 ⟨he, hL, _⟩
    rw [Dv.rotd_rotX hp ho hm] at he
    rw [Dv.rotd_rot hp ho hm] at hL
    subst he
    have L6 := Lib.hid hL
    clear hL L5
    go_wp2_with fail
    refine (L6.out.rotten DK (P : Int) (by omega) (by omega)).mono ?_; rintro e w7 ⟨he, hb⟩
    rw [Dv.rotd_rotten hp, decide_eq_true rfl] at he
    subst he
    have L7 := Lib.hid (L6.out.later DK hb)
    clear hb L6
    go_wp2_with fail
    go_loopw [13] (fun i wr => ∃ k : Nat, k ≤ M ∧ i = .int .i64 (k : Int) ∧ Lv Rep w wr (fun _ => False) D (Dv.rotd M c P O mask)) (fun i _ => M - (intOf i).toNat)
    case atStart => exact ⟨0, by omega, rfl, L7.out⟩
    case round =>
      obtain ⟨k, hk, rfl, hL⟩ := hrel
      have Lr := Lib.hid hL
      clear hL
      by_cases hlt : k < M
      · have hki : (k : Int) < (M : Int) := by omega
        by_cases hkp : k = P
        · subst hkp
          go_wp2_with fail
          refine (full_any c _).mono ?_; rintro e w2 ⟨A2, n2, c2, rfl, hs, hb, hm2⟩
          have hl := hs.len
          rw [cells_length, full_length, Nat.mul_one] at hl
          subst hl
          obtain ⟨g, rfl, hg2, _, _⟩ := hm2.at_ (j := 0) (by omega) (rfl : (full c)[0]? = some c)
          have hcap := hs.cap
          have Hcap := Lib.hid hs.top
          have M2 := Lib.hid hm2
          have B2 := Lib.hid hb
          have Hcap2 := Lib.hid hcap
          clear hs hb hm2 hcap
          go_wp2_with fail
          go_loopw [15] (fun i wz => ∃ j : Nat, j ≤ 4 ∧ i = .int .i64 (j : Int) ∧ Mine wz wr.heap.size 5 (some ⟨g, 0, none⟩) 64 (cells (Dv.spoilK c O mask j)) ∧ Below wr.heap.size wr wz) (fun i _ => 4 - (intOf i).toNat)
          case atStart => exact ⟨0, by omega, rfl, by rw [Dv.spoilK_zero]; exact M2.out, B2.out⟩
          case round =>
            obtain ⟨j, hj, rfl, hM, hB⟩ := hrel
            by_cases hj4 : j < 4
            · obtain ⟨g', hg, hB', hc, hz⟩ := hM.at_ (j := O + j) (by omega) (Dv.spoilK_at j (by omega))
              injection hg with hg
              injection hg with hg _
              subst hg
              have hset := hM.set (j := O + j) (by omega) (c ^^^ UInt8.ofNat (mask >>> (8 * j)))
              rw [Dv.spoilK_set j (by omega)] at hset
              have Hset := Lib.hid hset
              have Hm := Lib.hid hM
              clear hset hM
              have hji : (j : Int) < 4 := by omega
              go_wp2_with fail
              rw [byte_at c mask j]
              go_roundw
              case rel => exact ⟨j + 1, by omega, by go_num, Hset.out, hB.setCell hB' _⟩
              case measure => simp [intOf]; omega
            · have hje : j = 4 := by omega
              have hji : ¬ (j : Int) < 4 := by omega
              rw [hje, Dv.spoilK_four] at hM
              obtain ⟨wl, hwl⟩ : ∃ x, x = Dv.spoil (full c) O mask := ⟨_, rfl⟩
              have hwn : wl.length = 64 := by rw [hwl, Dv.spoil_length, full_length]
              rw [← hwl] at hM
              have SQ := Lib.hid (hM.sl hwn Hcap2.out Hcap.out)
              have LQ := Lib.hid (Lr.out.later DK hB)
              clear hM hB M2 B2 hje
              go_wp2_with fail
              refine (LQ.out.read DK (k : Int) (by omega) (by omega) (Nat.zero_le 100000)).mono ?_; rintro e w8 ⟨A8, n8, c8, he, hN⟩
              rw [Dv.rotd_readX hlt] at he
              rw [Dv.rotd_readL hlt, if_pos rfl, ← hwl] at hN
              subst he
              have L8 := Lib.hid (LQ.out.later DK hN.2.1)
              have k1 := str_of hN.1
              have k2 := str_of (SQ.out.below hN.2.1 (Nat.le_refl _))
              clear hN
              go_wp2_with fail
              refine (L8.out.rotten DK (k : Int) (by omega) (by omega)).mono ?_; rintro e w9 ⟨he, hb⟩
              rw [Dv.rotd_rotten hlt, decide_eq_true rfl] at he
              subst he
              have L9 := Lib.hid (L8.out.later DK hb)
              clear hb k1 k2 L8
              go_wp2_with fail
              go_roundw
              case rel => exact ⟨k + 1, by omega, by go_num, L9.out⟩
              case measure => simp [intOf]; omega
        · have hkq : ¬ (k : Int) = (P : Int) := by omega
          go_wp2_with fail
          refine (full_any c _).mono ?_; rintro e w2 ⟨A2, n2, c2, rfl, hs, hb, -⟩
          obtain ⟨wl, hwl⟩ : ∃ x, x = full c := ⟨_, rfl⟩
          rw [← hwl] at hs
          have SQ := Lib.hid hs
          have LQ := Lib.hid (Lr.out.later DK hb)
          clear hs hb
          go_wp2_with fail
          refine (LQ.out.read DK (k : Int) (by omega) (by omega) (Nat.zero_le 100000)).mono ?_; rintro e w8 ⟨A8, n8, c8, he, hN⟩
          rw [Dv.rotd_readX hlt] at he
          rw [Dv.rotd_readL hlt, if_neg hkp, ← hwl] at hN
          subst he
          have L8 := Lib.hid (LQ.out.later DK hN.2.1)
          have k1 := str_of hN.1
          have k2 := str_of (SQ.out.below hN.2.1 (Nat.le_refl _))
          clear hN
          go_wp2_with fail
          refine (L8.out.rotten DK (k : Int) (by omega) (by omega)).mono ?_; rintro e w9 ⟨he, hb⟩
          rw [Dv.rotd_rotten hlt, decide_eq_false hkp] at he
          subst he
          have L9 := Lib.hid (L8.out.later DK hb)
          clear hb k1 k2 L8
          go_wp2_with fail
          go_roundw
          case rel => exact ⟨k + 1, by omega, by go_num, L9.out⟩
          case measure => simp [intOf]; omega
      have hki : ¬ (k : Int) < (M : Int) := by omega
      go_wp2_with fail
      refine (full_any c _).mono ?_; rintro e wa ⟨Aa, na, ca, rfl, hs, hb, -⟩
      have La := Lib.hid (Lr.out.later DK hb)
      have Sa := Lib.hid hs
      clear hs hb Lr
      go_wp2_with fail
      refine (La.out.write DK (P : Int) Aa na ca (full c) (by omega) (by omega) (Nat.zero_le 100000) Sa.out).mono ?_; rintro e wb ⟨he, hL, _⟩
      rw [Dv.rotd_writeX hp] at he
      rw [Dv.rotd_write hp] at hL
      subst he
      have Lb := Lib.hid hL
      clear hL La Sa
      go_wp2_with fail
      refine (Lb.out.rotten DK (P : Int) (by omega) (by omega)).mono ?_; rintro e wc ⟨he, hb⟩
      rw [Dv.rotw_rotten hp] at he
      subst he
      have Lc := Lib.hid (Lb.out.later DK hb)
      clear hb Lb
      go_wp2_with fail
      refine (Lc.out.flush DK (by show (1 : Nat) ≤ 100000; omega)).mono ?_; rintro e wd ⟨he, hL, _⟩
      rw [Dv.rotw_flushX] at he
      rw [Dv.rotw_flush] at hL
      subst he
      have Ld := Lib.hid hL
      clear hL Lc
      go_wp2_with fail
      refine (Ld.out.rotten DK (P : Int) (by omega) (by omega)).mono ?_; rintro e we ⟨he, hb⟩
      rw [Dv.whole_rotten hp] at he
      subst he
      have Le := Lib.hid (Ld.out.later DK hb)
      clear hb Ld
      go_wp2_with fail
      refine (Le.out.rot DK (P : Int) (O : Int) mask (by omega) (by omega) (by omega) (by omega) bm).mono ?_; rintro e wf ⟨he, hL, _⟩
      rw [Dv.whole_rotX hp ho hm] at he
      rw [Dv.whole_rot hp ho hm] at hL
      subst he
      have Lf := Lib.hid hL
      clear hL Le
      go_wp2_with fail
      refine (Lf.out.fail DK).mono ?_; rintro e wg ⟨rfl, hL, _⟩
      have Lg := Lib.hid hL
      clear hL Lf
      go_wp2_with fail
      refine (Lg.out.read DK (P : Int) (by omega) (by omega) (Nat.zero_le 100000)).mono ?_; rintro e wh ⟨Ah, nh, ch, he, hN⟩
      rw [Dv.dead_readX] at he
      subst he
      have Lh := Lib.hid (Lg.out.later DK hN.2.1)
      clear hN Lg
      go_wp2_with fail
      refine (full_any c _).mono ?_; rintro e wi ⟨Ai, ni, ci, rfl, hs, hb, -⟩
      have Li := Lib.hid (Lh.out.later DK hb)
      have Si := Lib.hid hs
      clear hs hb Lh
      go_wp2_with fail
      refine (Li.out.write DK (P : Int) Ai ni ci (full c) (by omega) (by omega) (Nat.zero_le 100000) Si.out).mono ?_; rintro e wj ⟨he, hL, _⟩
      rw [Dv.dead_writeX] at he
      rw [Dv.dead_write] at hL
      subst he
      have Lj := Lib.hid hL
      clear hL Li Si
      go_wp2_with fail
      refine (Lj.out.dead DK).mono ?_; rintro e wk ⟨he, hb⟩
      rw [Dv.dead_gone] at he
      subst he
      have Lk := Lib.hid (Lj.out.later DK hb)
      clear hb Lj
      go_wp2_with fail
      refine (Lk.out.replace DK).mono ?_; rintro e wl ⟨rfl, hL, _⟩
      rw [Dv.dead_replace, Dv.rotd_n] at hL
      have Ll := Lib.hid hL
      clear hL Lk
      go_wp2_with fail
      refine (Ll.out.read DK (P : Int) (by omega) (by omega) (by simp [Dv.new])).mono ?_; rintro e wq ⟨Aq, nq, cq, he, hN⟩
      rw [Dv.new_readX hp] at he
      rw [Dv.new_readL hp] at hN
      subst he
      have SR := Lib.hid hN.1
      have LR := Lib.hid ((Ll.out.later DK hN.2.1).later DK (Below.drew (Below.refl _ _)))
      clear hN Ll
      go_wp2_with fail
      refine wp_region_held_drew (S := fun w' => Fr (fun _ => False) wq.drew w') (by kernel_rfl) (Fr.refl _ _) (fun hHeld => ?_)
      clear hHeld
      refine wpAnyH_take (i := 0) (oi := ⟨some 194, _, _, _, _, _⟩) (v := ?vg0) rfl (by kernel_rfl) (by kernel_rfl) (by kernel_rfl) (fun _ _ _ h => h) (Or.inl ⟨by rfl, ?yg0⟩) (Fr.refl _ _) ?rg0
      case yg0 =>
        intro wq hSw
        (try dsimp only at hSw)
        first | (go_simp; done) | (go_simp; with_reducible rfl)
      try simp only [Act.put, List.setIfInBounds_toArray, List.set_cons_zero, List.set_cons_succ]
      refine wpAnyH_take (i := 1) (oi := ⟨some 195, _, _, _, _, _⟩) (v := ?vg1) rfl (by kernel_rfl) (by kernel_rfl) (by kernel_rfl) (fun _ _ _ h => h) (Or.inl ⟨by rfl, ?yg1⟩) (Fr.refl _ _) ?rg1
      case yg1 =>
        intro wq hSw
        (try dsimp only at hSw)
        first | (go_simp; done) | (go_simp; with_reducible rfl)
      try simp only [Act.put, List.setIfInBounds_toArray, List.set_cons_zero, List.set_cons_succ]
      refine wpAnyH_take (i := 2) (oi := ⟨some 196, _, _, _, _, _⟩) (v := ?vg2) rfl (by kernel_rfl) (by kernel_rfl) (by kernel_rfl) (fun _ _ _ h => h) (Or.inl ⟨by rfl, ?yg2⟩) (Fr.refl _ _) ?rg2
      case yg2 =>
        intro wq hSw
        (try dsimp only at hSw)
        first | (go_simp; done) | (go_simp; with_reducible rfl)
      try simp only [Act.put, List.setIfInBounds_toArray, List.set_cons_zero, List.set_cons_succ]
      refine wpAnyH_take (i := 3) (oi := ⟨some 197, _, _, _, _, _⟩) (v := ?vg3) rfl (by kernel_rfl) (by kernel_rfl) (by kernel_rfl) (fun _ _ _ h => h) (Or.inl ⟨by rfl, ?yg3⟩) (Fr.refl _ _) ?rg3
      case yg3 =>
        intro wq hSw
        (try dsimp only at hSw)
        first | (go_simp; done) | (go_simp; with_reducible rfl)
      try simp only [Act.put, List.setIfInBounds_toArray, List.set_cons_zero, List.set_cons_succ]
      refine wpAnyH_take (i := 4) (oi := ⟨some 198, _, _, _, _, _⟩) (v := ?vg4) rfl (by kernel_rfl) (by kernel_rfl) (by kernel_rfl) (fun _ _ _ h => h) (Or.inl ⟨by rfl, ?yg4⟩) (Fr.refl _ _) ?rg4
      case yg4 =>
        intro wq hSw
        (try dsimp only at hSw)
        first | (go_simp; done) | (go_simp; with_reducible rfl)
      try simp only [Act.put, List.setIfInBounds_toArray, List.set_cons_zero, List.set_cons_succ]
      refine wpAnyH_take (i := 5) (oi := ⟨some 199, _, _, _, _, _⟩) (v := ?vg5) rfl (by kernel_rfl) (by kernel_rfl) (by kernel_rfl) (fun _ _ _ h => h) (Or.inl ⟨by rfl, ?yg5⟩) (Fr.refl _ _) ?rg5
      case yg5 =>
        intro wq hSw
        (try dsimp only at hSw)
        first | (go_simp; done) | (go_simp; with_reducible rfl)
      try simp only [Act.put, List.setIfInBounds_toArray, List.set_cons_zero, List.set_cons_succ]
      refine wpAnyH_take (i := 6) (oi := ⟨some 200, _, _, _, _, _⟩) (v := ?vg6) rfl (by kernel_rfl) (by kernel_rfl) (by kernel_rfl) (fun _ _ _ h => h) (Or.inl ⟨by rfl, ?yg6⟩) (Fr.refl _ _) ?rg6
      case yg6 =>
        intro wq hSw
        (try dsimp only at hSw)
        first | (go_simp; done) | (go_simp; with_reducible rfl)
      try simp only [Act.put, List.setIfInBounds_toArray, List.set_cons_zero, List.set_cons_succ]
      refine wpAnyH_take (i := 7) (oi := ⟨some 201, _, _, _, _, _⟩) (v := ?vg7) rfl (by kernel_rfl) (by kernel_rfl) (by kernel_rfl) (fun _ _ _ h => h) (Or.inl ⟨by rfl, ?yg7⟩) (Fr.refl _ _) ?rg7
      case yg7 =>
        intro wq hSw
        (try dsimp only at hSw)
        first | (go_simp; done) | (go_simp; with_reducible rfl)
      try simp only [Act.put, List.setIfInBounds_toArray, List.set_cons_zero, List.set_cons_succ]
      refine wpAnyH_take (i := 8) (oi := ⟨some 202, _, _, _, _, _⟩) (v := ?vg8) rfl (by kernel_rfl) (by kernel_rfl) (by kernel_rfl) (fun _ _ _ h => h) (Or.inl ⟨by rfl, ?yg8⟩) (Fr.refl _ _) ?rg8
      case yg8 =>
        intro wq hSw
        (try dsimp only at hSw)
        first | (go_simp; done) | (go_simp; with_reducible rfl)
      try simp only [Act.put, List.setIfInBounds_toArray, List.set_cons_zero, List.set_cons_succ]
      refine wpAnyH_take (i := 9) (oi := ⟨some 203, _, _, _, _, _⟩) (v := ?vg9) rfl (by kernel_rfl) (by kernel_rfl) (by kernel_rfl) (fun _ _ _ h => h) (Or.inl ⟨by rfl, ?yg9⟩) (Fr.refl _ _) ?rg9
      case yg9 =>
        intro wq hSw
        (try dsimp only at hSw)
        first | (go_simp; done) | (go_simp; with_reducible rfl)
      try simp only [Act.put, List.setIfInBounds_toArray, List.set_cons_zero, List.set_cons_succ]
      refine wpAnyH_take (i := 10) (oi := ⟨some 204, _, _, _, _, _⟩) (v := ?vg10) rfl (by kernel_rfl) (by kernel_rfl) (by kernel_rfl) (fun _ _ _ h => h) (Or.inl ⟨by rfl, ?yg10⟩) (Fr.refl _ _) ?rg10
      case yg10 =>
        intro wq hSw
        (try dsimp only at hSw)
        first | (go_simp; done) | (go_simp; with_reducible rfl)
      try simp only [Act.put, List.setIfInBounds_toArray, List.set_cons_zero, List.set_cons_succ]
      refine wpAnyH_take (i := 11) (oi := ⟨some 205, _, _, _, _, _⟩) (v := ?vg11) rfl (by kernel_rfl) (by kernel_rfl) (by kernel_rfl) (fun _ _ _ h => h) (Or.inl ⟨by rfl, ?yg11⟩) (Fr.refl _ _) ?rg11
      case yg11 =>
        intro wq hSw
        (try dsimp only at hSw)
        first | (go_simp; done) | (go_simp; with_reducible rfl)
      try simp only [Act.put, List.setIfInBounds_toArray, List.set_cons_zero, List.set_cons_succ]
      refine wpAnyH_take (i := 12) (oi := ⟨some 206, _, _, _, _, _⟩) (v := ?vg12) rfl (by kernel_rfl) (by kernel_rfl) (by kernel_rfl) (fun _ _ _ h => h) (Or.inl ⟨by rfl, ?yg12⟩) (Fr.refl _ _) ?rg12
      case yg12 =>
        intro wq hSw
        (try dsimp only at hSw)
        first | (go_simp; done) | (go_simp; with_reducible rfl)
      try simp only [Act.put, List.setIfInBounds_toArray, List.set_cons_zero, List.set_cons_succ]
      refine wpAnyH_take (i := 13) (oi := ⟨some 207, _, _, _, _, _⟩) (v := ?vg13) rfl (by kernel_rfl) (by kernel_rfl) (by kernel_rfl) (fun _ _ _ h => h) (Or.inl ⟨by rfl, ?yg13⟩) (Fr.refl _ _) ?rg13
      case yg13 =>
        intro wq hSw
        (try dsimp only at hSw)
        first | (go_simp; done) | (go_simp; with_reducible rfl)
      try simp only [Act.put, List.setIfInBounds_toArray, List.set_cons_zero, List.set_cons_succ]
      refine wpAnyH_take (i := 14) (oi := ⟨some 208, _, _, _, _, _⟩) (v := ?vg14) rfl (by kernel_rfl) (by kernel_rfl) (by kernel_rfl) (fun _ _ _ h => h) (Or.inl ⟨by rfl, ?yg14⟩) (Fr.refl _ _) ?rg14
      case yg14 =>
        intro wq hSw
        (try dsimp only at hSw)
        first | (go_simp; done) | (go_simp; with_reducible rfl)
      try simp only [Act.put, List.setIfInBounds_toArray, List.set_cons_zero, List.set_cons_succ]
      refine wpAnyH_take (i := 15) (oi := ⟨some 209, _, _, _, _, _⟩) (v := ?vg15) rfl (by kernel_rfl) (by kernel_rfl) (by kernel_rfl) (fun _ _ _ h => h) (Or.inl ⟨by rfl, ?yg15⟩) (Fr.refl _ _) ?rg15
      case yg15 =>
        intro wq hSw
        (try dsimp only at hSw)
        have kk := str_of (SR.out.drew.fr hSw (fun _ _ _ _ h => h))
        first | (go_simp; done) | (go_simp; with_reducible rfl)
      try simp only [Act.put, List.setIfInBounds_toArray, List.set_cons_zero, List.set_cons_succ]
      refine wpAnyH_ready (rs := [16]) (by kernel_rfl) (by simp) ?_
      refine AllReadyH.cons (o := ⟨some 210, _, _, _, _, _⟩) rfl (fun K hK => ?_) AllReadyH.nil
      go_simp
      have hh := full_at 0 0 rfl
      refine (hh _).mono ?_; clear hh; rintro e ws ⟨As, ns, cs, rfl, hss, hbs, -⟩
      have LS := Lib.hid (LR.out.later DK hbs)
      have SS := Lib.hid hss
      have hfr := Fr.of_below (S := fun _ => False) hbs
      clear hss hbs
      go_wp2_with fail
      refine hK.out _ _ hfr (fun hHeld => ?_)
      clear hK K hHeld
      try simp only [Act.put, List.setIfInBounds_toArray, List.set_cons_zero, List.set_cons_succ]
      refine wpAnyH_re (S' := fun w' => Fr (fun _ => False) ws w') (fun w' h => hfr.trans h) ?_
      clear hfr
      refine wpAnyH_take (i := 17) (oi := ⟨some 211, _, _, _, _, _⟩) (v := ?vg17) rfl (by kernel_rfl) (by kernel_rfl) (by kernel_rfl) (fun _ _ _ h => h) (Or.inl ⟨by rfl, ?yg17⟩) (Fr.refl _ _) ?rg17
      case yg17 =>
        intro wq hSw
        (try dsimp only at hSw)
        have kk := str_of (SS.out.fr hSw (fun _ _ _ _ h => h))
        first | (go_simp; done) | (go_simp; with_reducible rfl)
      try simp only [Act.put, List.setIfInBounds_toArray, List.set_cons_zero, List.set_cons_succ]
      refine wpAnyH_take (i := 18) (oi := ⟨some 212, _, _, _, _, _⟩) (v := ?vg18) rfl (by kernel_rfl) (by kernel_rfl) (by kernel_rfl) (fun _ _ _ h => h) (Or.inl ⟨by rfl, ?yg18⟩) (Fr.refl _ _) ?rg18
      case yg18 =>
        intro wq hSw
        (try dsimp only at hSw)
        first | (go_simp; done) | (go_simp; with_reducible rfl)
      try simp only [Act.put, List.setIfInBounds_toArray, List.set_cons_zero, List.set_cons_succ]
      refine wpAnyH_take (i := 19) (oi := ⟨some 213, _, _, _, _, _⟩) (v := ?vg19) rfl (by kernel_rfl) (by kernel_rfl) (by kernel_rfl) (fun _ _ _ h => h) (Or.inl ⟨by rfl, ?yg19⟩) (Fr.refl _ _) ?rg19
      case yg19 =>
        intro wq hSw
        (try dsimp only at hSw)
        first | (go_simp; done) | (go_simp; with_reducible rfl)
      try simp only [Act.put, List.setIfInBounds_toArray, List.set_cons_zero, List.set_cons_succ]
      refine wpAnyH_take (i := 20) (oi := ⟨some 214, _, _, _, _, _⟩) (v := ?vg20) rfl (by kernel_rfl) (by kernel_rfl) (by kernel_rfl) (fun _ _ _ h => h) (Or.inl ⟨by rfl, ?yg20⟩) (Fr.refl _ _) ?rg20
      case yg20 =>
        intro wq hSw
        (try dsimp only at hSw)
        first | (go_simp; done) | (go_simp; with_reducible rfl)
      try simp only [Act.put, List.setIfInBounds_toArray, List.set_cons_zero, List.set_cons_succ]
      refine wpAnyH_take (i := 21) (oi := ⟨some 215, _, _, _, _, _⟩) (v := ?vg21) rfl (by kernel_rfl) (by kernel_rfl) (by kernel_rfl) (fun _ _ _ h => h) (Or.inl ⟨by rfl, ?yg21⟩) (Fr.refl _ _) ?rg21
      case yg21 =>
        intro wq hSw
        (try dsimp only at hSw)
        first | (go_simp; done) | (go_simp; with_reducible rfl)
      try simp only [Act.put, List.setIfInBounds_toArray, List.set_cons_zero, List.set_cons_succ]
      refine wpAnyH_take (i := 22) (oi := ⟨some 216, _, _, _, _, _⟩) (v := ?vg22) rfl (by kernel_rfl) (by kernel_rfl) (by kernel_rfl) (fun _ _ _ h => h) (Or.inl ⟨by rfl, ?yg22⟩) (Fr.refl _ _) ?rg22
      case yg22 =>
        intro wq hSw
        (try dsimp only at hSw)
        first | (go_simp; done) | (go_simp; with_reducible rfl)
      try simp only [Act.put, List.setIfInBounds_toArray, List.set_cons_zero, List.set_cons_succ]
      refine wpAnyH_ready (rs := [23]) (by kernel_rfl) (by simp) ?_
      refine AllReadyH.cons (o := ⟨some 217, _, _, _, _, _⟩) rfl (fun K hK => ?_) AllReadyH.nil
      go_simp
      refine (LS.out.rotten DK (P : Int) (by omega) (by omega)).mono ?_; rintro e wt ⟨he, hbt⟩
      rw [Dv.new_rotten hp] at he
      subst he
      have LT := Lib.hid (LS.out.later DK hbt)
      have hfr := Fr.of_below (S := fun _ => False) hbt
      clear hbt
      go_wp2_with fail
      refine hK.out _ _ hfr (fun hHeld => ?_)
      clear hK K hHeld
      try simp only [Act.put, List.setIfInBounds_toArray, List.set_cons_zero, List.set_cons_succ]
      refine wpAnyH_re (S' := fun w' => Fr (fun _ => False) wt w') (fun w' h => hfr.trans h) ?_
      clear hfr
      refine wpAnyH_take (i := 24) (oi := ⟨some 218, _, _, _, _, _⟩) (v := ?vg24) rfl (by kernel_rfl) (by kernel_rfl) (by kernel_rfl) (fun _ _ _ h => h) (Or.inl ⟨by rfl, ?yg24⟩) (Fr.refl _ _) ?rg24
      case yg24 =>
        intro wq hSw
        (try dsimp only at hSw)
        first | (go_simp; done) | (go_simp; with_reducible rfl)
      try simp only [Act.put, List.setIfInBounds_toArray, List.set_cons_zero, List.set_cons_succ]
      refine wpAnyH_take (i := 25) (oi := ⟨some 219, _, _, _, _, _⟩) (v := ?vg25) rfl (by kernel_rfl) (by kernel_rfl) (by kernel_rfl) (fun _ _ _ h => h) (Or.inl ⟨by rfl, ?yg25⟩) (Fr.refl _ _) ?rg25
      case yg25 =>
        intro wq hSw
        (try dsimp only at hSw)
        first | (go_simp; done) | (go_simp; with_reducible rfl)
      try simp only [Act.put, List.setIfInBounds_toArray, List.set_cons_zero, List.set_cons_succ]
      refine wpAnyH_take (i := 26) (oi := ⟨some 220, _, _, _, _, _⟩) (v := ?vg26) rfl (by kernel_rfl) (by kernel_rfl) (by kernel_rfl) (fun _ _ _ h => h) (Or.inl ⟨by rfl, ?yg26⟩) (Fr.refl _ _) ?rg26
      case yg26 =>
        intro wq hSw
        (try dsimp only at hSw)
        first | (go_simp; done) | (go_simp; with_reducible rfl)
      try simp only [Act.put, List.setIfInBounds_toArray, List.set_cons_zero, List.set_cons_succ]
      refine wpAnyH_ready (rs := [27]) (by kernel_rfl) (by simp) ?_
      refine AllReadyH.cons (o := ⟨some 221, _, _, _, _, _⟩) rfl (fun K hK => ?_) AllReadyH.nil
      go_simp
      refine (stores9_any DK _).mono ?_; rintro e wu ⟨rfl, hbu⟩
      have LU := Lib.hid (LT.out.later DK hbu)
      have hfr := Fr.of_below (S := fun _ => False) hbu
      clear hbu
      go_wp2_with fail
      refine hK.out _ _ hfr (fun hHeld => ?_)
      clear hK K hHeld
      try simp only [Act.put, List.setIfInBounds_toArray, List.set_cons_zero, List.set_cons_succ]
      refine wpAnyH_re (S' := fun w' => Fr (fun _ => False) wu w') (fun w' h => hfr.trans h) ?_
      clear hfr
      refine wpAnyH_take (i := 28) (oi := ⟨some 222, _, _, _, _, _⟩) (v := ?vg28) rfl (by kernel_rfl) (by kernel_rfl) (by kernel_rfl) (fun _ _ _ h => h) (Or.inl ⟨by rfl, ?yg28⟩) (Fr.refl _ _) ?rg28
      case yg28 =>
        intro wq hSw
        (try dsimp only at hSw)
        first | (go_simp; done) | (go_simp; with_reducible rfl)
      try simp only [Act.put, List.setIfInBounds_toArray, List.set_cons_zero, List.set_cons_succ]
      refine wpAnyH_take (i := 29) (oi := ⟨some 10, _, _, _, _, _⟩) (v := ?vg29) rfl (by kernel_rfl) (by kernel_rfl) (by kernel_rfl) (fun _ _ _ h => h) (Or.inl ⟨by rfl, ?yg29⟩) (Fr.refl _ _) ?rg29
      case yg29 =>
        intro wq hSw
        (try dsimp only at hSw)
        first | (go_simp; done) | (go_simp; with_reducible rfl)
      try simp only [Act.put, List.setIfInBounds_toArray, List.set_cons_zero, List.set_cons_succ]
      refine wpAnyH_done (by kernel_rfl) ?_ _
      go_wp2_with fail
      go_ret
      exact ⟨rfl, LU.out.bel⟩
end Go.Proofs.Ytmlmlmlbdjhfhaa
