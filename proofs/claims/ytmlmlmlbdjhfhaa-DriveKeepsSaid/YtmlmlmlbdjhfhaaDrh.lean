/-
  DriveKeeps over DrvK: it returns true, whatever its arguments. (Written by gen_drh.py.)
-/
import Derived.Test.YtmlmlmlbdjhfhaaDrg
import Derived.Test.YtmlmlmlbdjhfhaaDrf
import Derived.Deep.RegionHeld3
import Derived.Deep.DeepCutAuto
namespace Go.Proofs.Ytmlmlmlbdjhfhaa
open Go.RowKit Go.Proofs
set_option linter.unusedVariables false
set_option linter.unusedSimpArgs false

set_option maxRecDepth 20000 in
set_option maxHeartbeats 6400000 in
theorem driveKeeps_any {Rep : World → (Nat → Prop) → Nat → Dv → Prop} (DK : DrvK Rep) (n : Int) (A : Option Addr) (ca : Nat) (its : List (Int × UInt8)) (at_ : Int) (c : UInt8) (B : Option Addr) (cb : Nat) (ks : List Bool) (w : World) (bn : -9223372036854775808 ≤ n ∧ n < 9223372036854775808) (ba : -9223372036854775808 ≤ at_ ∧ at_ < 9223372036854775808) (hp : Puts w A its.length ca its) (hk : Sl w 1 B ks.length cb (bcells ks)) :
    Calls Try.prog 4 #[.int .i64 n, .slice A its.length ca, .int .i64 at_, .int .u8 (c.toNat : Int), .slice B ks.length cb] w (SaysTrue w) := by
  obtain ⟨nf, hnf⟩ : ∃ x, x = its.length := ⟨_, rfl⟩
  obtain ⟨nk, hnk⟩ : ∃ x, x = ks.length := ⟨_, rfl⟩
  rw [← hnf] at hp ⊢
  rw [← hnk] at hk ⊢
  have HP := Lib.hid hp
  have HK := Lib.hid hk
  have HN := Lib.hid hnf
  have HM := Lib.hid hnk
  clear hp hk hnf hnk
  by_cases g0 : n < 2
  · go_enter Try.func4, Try.ntmps4
    go_wp2_with fail
    refine (stores9_any DK _).mono ?_; rintro e wz ⟨rfl, hbz⟩
    go_wp2_with fail
    go_ret
    exact ⟨rfl, hbz⟩
  by_cases g1 : 20 < n
  · go_enter Try.func4, Try.ntmps4
    go_wp2_with fail
    refine (stores9_any DK _).mono ?_; rintro e wz ⟨rfl, hbz⟩
    go_wp2_with fail
    go_ret
    exact ⟨rfl, hbz⟩
  by_cases g2 : (100 : Int) < (nf : Int)
  · go_enter Try.func4, Try.ntmps4
    go_wp2_with fail
    refine (stores9_any DK _).mono ?_; rintro e wz ⟨rfl, hbz⟩
    go_wp2_with fail
    go_ret
    exact ⟨rfl, hbz⟩
  by_cases g3 : (200 : Int) < (nk : Int)
  · go_enter Try.func4, Try.ntmps4
    go_wp2_with fail
    refine (stores9_any DK _).mono ?_; rintro e wz ⟨rfl, hbz⟩
    go_wp2_with fail
    go_ret
    exact ⟨rfl, hbz⟩
  obtain ⟨M, rfl⟩ : ∃ M : Nat, n = (M : Int) := ⟨n.toNat, by omega⟩
  have hmk := make_eq (M : Int) M rfl (by omega)
  go_enter Try.func4, Try.ntmps4
  go_wp2_with fail
  refine (Lv.new DK (Below.refl _ _) (X := fun _ => False) (fun _ h => h.elim) M (by omega) (by omega)).mono ?_; rintro e w1 ⟨D, rfl, hL, -⟩
  have L1 := Lib.hid hL
  clear hL
  go_wp2_with fail
  have hM2 := Mine.noughts w1 M
  have hL2 := L1.out.block DK (.cells (madeCells #[.int .u8 0] M) 5)
  have M2 := Lib.hid hM2
  have L2 := Lib.hid hL2
  have HG := Lib.hid (show w.heap.size ≤ w1.heap.size from L1.out.bel.size)
  clear hM2 hL2 hmk L1
  go_loopw [13] (fun i wr => ∃ (k : Nat) (l : List UInt8) (x : Dv), k ≤ nf ∧ i = .int .i64 (k : Int) ∧ Mine wr w1.heap.size 5 (some ⟨w1.heap.size, 0, none⟩) M (cells l) ∧ Hol x M k l ∧ Lv Rep w wr (fun b => b = w1.heap.size) D x) (fun i _ => nf - (intOf i).toNat)
  case atStart => exact ⟨0, _, _, by omega, rfl, M2.out, Hol.new M, L2.out⟩
  case round =>
    obtain ⟨k, l, x, hk, rfl, hM, hH, hL⟩ := hrel
    have Mr := Lib.hid hM
    have Hr := Lib.hid hH
    have Lr := Lib.hid hL
    clear hM hH hL
    by_cases hlt : k < nf
    · have hki : (k : Int) < (nf : Int) := by omega
      obtain ⟨z, cc, hx⟩ : ∃ z cc, its[k]? = some (z, cc) := ⟨_, _, List.getElem?_eq_getElem (by rw [← HN.out]; exact hlt)⟩
      have Hx := Lib.hid hx
      obtain ⟨bb, oo, rfl, hc1, hc2⟩ := (HP.out.below Lr.out.bel).cell k _ hx
      simp only at hc1 hc2
      clear hx
      go_upto_region 8 with (fail)
      go_cut [14] (fun v wx => AtQ M wr v wx)
      case first =>
        go_wp2_with fail
        all_goals
          go_meet
          exact ⟨(max 0 (min z ((M : Int) - 1))).toNat, by omega, by congr 1; omega, rfl⟩
      case rest =>
        obtain ⟨q, hq, rfl, rfl⟩ := hcut
        go_wp2_with fail
        refine (full_any cc _).mono ?_; rintro e w3 ⟨A3, n3, c3, rfl, hs, hb, -⟩
        have L3 := Lib.hid (Lr.out.later DK hb)
        have M3 := Lib.hid (Mr.out.laterB hb)
        have S3 := Lib.hid hs
        clear hs hb
        go_wp2_with fail
        refine (L3.out.write DK (q : Int) A3 n3 c3 (full cc) (by omega) (by omega) (by rw [Hr.out.wait]; omega) S3.out).mono ?_; rintro e w4 ⟨he, hL, hF⟩
        rw [Hr.out.writeX hq cc] at he
        subst he
        obtain ⟨y, hy⟩ : ∃ y, y = x.write (q : Int) (full cc) := ⟨_, rfl⟩
        rw [← hy] at hL
        have H4 := Lib.hid (show Hol y M (k + 1) (l.set q cc) by rw [hy]; exact Hr.out.write hq cc)
        have L4 := Lib.hid hL
        have hM4 := M3.out.frG hF
        have hln : l.length = M := Hr.out.len
        obtain ⟨u, hu⟩ : ∃ u, l[q]? = some u := ⟨_, List.getElem?_eq_getElem (by omega)⟩
        obtain ⟨g', hg', hB', hcg, hzg⟩ := hM4.at_ hq hu
        injection hg' with hg'
        injection hg' with hg' _
        subst hg'
        have M5 := Lib.hid (hM4.set hq cc)
        have hcc := ((HP.out.below L4.out.bel).cell k _ Hx.out)
        obtain ⟨bx, ox, hbx, _, hc3⟩ := hcc
        injection hbx with hbx
        injection hbx with hbx hox
        subst hbx hox
        have L5 := Lib.hid (L4.out.frX DK ((Fr.refl (fun b => b = w1.heap.size) w4).setCell (p := ⟨w1.heap.size, q, none⟩) (Or.inr rfl) (.int .u8 (cc.toNat : Int))) (fun b hb => by have hb : b = w1.heap.size := hb; rw [hb]; exact HG.out))
        clear hL hF hM4 hy M3 L3 S3 Mr Lr Hr hu hc1 hc2
        simp only at hc3
        go_wp2_with fail
        refine (L5.out.read DK (q : Int) (by omega) (by omega) (by rw [H4.out.wait]; omega)).mono ?_; rintro e wy ⟨Ay, ny, cy, he, hN⟩
        rw [H4.out.readX hq] at he
        rw [H4.out.readL hq, set_getD (by omega)] at hN
        subst he
        have LY := Lib.hid ((L5.out.later DK hN.2.1).later DK (Below.drew (Below.refl _ _)))
        have MY := Lib.hid ((M5.out.laterB hN.2.1).laterB (Below.drew (Below.refl _ _)))
        have SY := Lib.hid hN.1.drew
        have HC := Lib.hid (show wy.drew.cell? ⟨bb, oo + k * 2 + 1, none⟩ = some (.int .u8 (cc.toNat : Int)) by
          obtain ⟨b', o', e', _, h'⟩ := (HP.out.below LY.out.bel).cell k _ Hx.out
          injection e' with e'
          injection e' with e1 e2
          subst e1 e2
          exact h')
        clear hN L4 L5 M5 hc3 hcg hzg
        go_wp2_with fail
        refine wp_region_held_drew (S := fun w' => Fr (fun _ => False) wy.drew w') (by kernel_rfl) (Fr.refl _ _) (fun hHeld => ?_)
        clear hHeld
        refine wpAnyH_take (i := 0) (oi := ⟨some 82, _, _, _, _, _⟩) (v := ?va0) rfl (by kernel_rfl) (by kernel_rfl) (by kernel_rfl) (fun _ _ _ h => h) (Or.inl ⟨by rfl, ?ya0⟩) (Fr.refl _ _) ?ra0
        case ya0 =>
          intro wq hSw
          (try dsimp only at hSw)
          first | (go_simp; done) | (go_simp; with_reducible rfl)
        try simp only [Act.put, List.setIfInBounds_toArray, List.set_cons_zero, List.set_cons_succ]
        refine wpAnyH_take (i := 1) (oi := ⟨some 83, _, _, _, _, _⟩) (v := ?va1) rfl (by kernel_rfl) (by kernel_rfl) (by kernel_rfl) (fun _ _ _ h => h) (Or.inl ⟨by rfl, ?ya1⟩) (Fr.refl _ _) ?ra1
        case ya1 =>
          intro wq hSw
          (try dsimp only at hSw)
          first | (go_simp; done) | (go_simp; with_reducible rfl)
        try simp only [Act.put, List.setIfInBounds_toArray, List.set_cons_zero, List.set_cons_succ]
        refine wpAnyH_take (i := 2) (oi := ⟨some 84, _, _, _, _, _⟩) (v := ?va2) rfl (by kernel_rfl) (by kernel_rfl) (by kernel_rfl) (fun _ _ _ h => h) (Or.inl ⟨by rfl, ?ya2⟩) (Fr.refl _ _) ?ra2
        case ya2 =>
          intro wq hSw
          (try dsimp only at hSw)
          first | (go_simp; done) | (go_simp; with_reducible rfl)
        try simp only [Act.put, List.setIfInBounds_toArray, List.set_cons_zero, List.set_cons_succ]
        refine wpAnyH_take (i := 3) (oi := ⟨some 85, _, _, _, _, _⟩) (v := ?va3) rfl (by kernel_rfl) (by kernel_rfl) (by kernel_rfl) (fun _ _ _ h => h) (Or.inl ⟨by rfl, ?ya3⟩) (Fr.refl _ _) ?ra3
        case ya3 =>
          intro wq hSw
          (try dsimp only at hSw)
          first | (go_simp; done) | (go_simp; with_reducible rfl)
        try simp only [Act.put, List.setIfInBounds_toArray, List.set_cons_zero, List.set_cons_succ]
        refine wpAnyH_take (i := 4) (oi := ⟨some 86, _, _, _, _, _⟩) (v := ?va4) rfl (by kernel_rfl) (by kernel_rfl) (by kernel_rfl) (fun _ _ _ h => h) (Or.inl ⟨by rfl, ?ya4⟩) (Fr.refl _ _) ?ra4
        case ya4 =>
          intro wq hSw
          (try dsimp only at hSw)
          have kk := str_of (SY.out.fr hSw (fun _ _ _ _ h => h))
          first | (go_simp; done) | (go_simp; with_reducible rfl)
        try simp only [Act.put, List.setIfInBounds_toArray, List.set_cons_zero, List.set_cons_succ]
        refine wpAnyH_take (i := 5) (oi := ⟨some 87, _, _, _, _, _⟩) (v := ?va5) rfl (by kernel_rfl) (by kernel_rfl) (by kernel_rfl) (fun _ _ _ h => h) (Or.inl ⟨by rfl, ?ya5⟩) (Fr.refl _ _) ?ra5
        case ya5 =>
          intro wq hSw
          (try dsimp only at hSw)
          first | (go_simp; done) | (go_simp; with_reducible rfl)
        try simp only [Act.put, List.setIfInBounds_toArray, List.set_cons_zero, List.set_cons_succ]
        refine wpAnyH_take (i := 6) (oi := ⟨some 88, _, _, _, _, _⟩) (v := ?va6) rfl (by kernel_rfl) (by kernel_rfl) (by kernel_rfl) (fun _ _ _ h => h) (Or.inl ⟨by rfl, ?ya6⟩) (Fr.refl _ _) ?ra6
        case ya6 =>
          intro wq hSw
          (try dsimp only at hSw)
          first | (go_simp; done) | (go_simp; with_reducible rfl)
        try simp only [Act.put, List.setIfInBounds_toArray, List.set_cons_zero, List.set_cons_succ]
        refine wpAnyH_take (i := 7) (oi := ⟨some 89, _, _, _, _, _⟩) (v := ?va7) rfl (by kernel_rfl) (by kernel_rfl) (by kernel_rfl) (fun _ _ _ h => h) (Or.inl ⟨by rfl, ?ya7⟩) (Fr.refl _ _) ?ra7
        case ya7 =>
          intro wq hSw
          (try dsimp only at hSw)
          first | (go_simp; done) | (go_simp; with_reducible rfl)
        try simp only [Act.put, List.setIfInBounds_toArray, List.set_cons_zero, List.set_cons_succ]
        refine wpAnyH_take (i := 8) (oi := ⟨some 90, _, _, _, _, _⟩) (v := ?va8) rfl (by kernel_rfl) (by kernel_rfl) (by kernel_rfl) (fun _ _ _ h => h) (Or.inl ⟨by rfl, ?ya8⟩) (Fr.refl _ _) ?ra8
        case ya8 =>
          intro wq hSw
          (try dsimp only at hSw)
          first | (go_simp; done) | (go_simp; with_reducible rfl)
        try simp only [Act.put, List.setIfInBounds_toArray, List.set_cons_zero, List.set_cons_succ]
        refine wpAnyH_take (i := 9) (oi := ⟨some 91, _, _, _, _, _⟩) (v := ?va9) rfl (by kernel_rfl) (by kernel_rfl) (by kernel_rfl) (fun _ _ _ h => h) (Or.inl ⟨by rfl, ?ya9⟩) (Fr.refl _ _) ?ra9
        case ya9 =>
          intro wq hSw
          (try dsimp only at hSw)
          have hq := hSw.cell_some HC.out (fun h => h)
          first | (go_simp; done) | (go_simp; with_reducible rfl)
        try simp only [Act.put, List.setIfInBounds_toArray, List.set_cons_zero, List.set_cons_succ]
        refine wpAnyH_ready (rs := [10]) (by kernel_rfl) (by simp) ?_
        refine AllReadyH.cons (o := ⟨some 92, _, _, _, _, _⟩) rfl (fun K hK => ?_) AllReadyH.nil
        go_simp
        refine (full_any cc _).mono ?_; rintro e wz ⟨Az, nz, cz, rfl, hz1, hz2, -⟩
        have LZ := Lib.hid (LY.out.later DK hz2)
        have MZ := Lib.hid (MY.out.laterB hz2)
        have SZ := Lib.hid hz1
        have SX := Lib.hid (SY.out.below hz2 (Nat.le_refl _))
        have hfr := Fr.of_below (S := fun _ => False) hz2
        clear hz1 hz2
        go_wp2_with fail
        refine hK.out _ _ hfr (fun hHeld => ?_)
        clear hK K hHeld
        try simp only [Act.put, List.setIfInBounds_toArray, List.set_cons_zero, List.set_cons_succ]
        refine wpAnyH_re (S' := fun w' => Fr (fun _ => False) wz w') (fun w' h => hfr.trans h) ?_
        clear hfr
        refine wpAnyH_take (i := 11) (oi := ⟨some 93, _, _, _, _, _⟩) (v := ?va11) rfl (by kernel_rfl) (by kernel_rfl) (by kernel_rfl) (fun _ _ _ h => h) (Or.inl ⟨by rfl, ?ya11⟩) (Fr.refl _ _) ?ra11
        case ya11 =>
          intro wq hSw
          (try dsimp only at hSw)
          have kk := str_of (SZ.out.fr hSw (fun _ _ _ _ h => h))
          first | (go_simp; done) | (go_simp; with_reducible rfl)
        try simp only [Act.put, List.setIfInBounds_toArray, List.set_cons_zero, List.set_cons_succ]
        refine wpAnyH_take (i := 12) (oi := ⟨some 94, _, _, _, _, _⟩) (v := ?va12) rfl (by kernel_rfl) (by kernel_rfl) (by kernel_rfl) (fun _ _ _ h => h) (Or.inl ⟨by rfl, ?ya12⟩) (Fr.refl _ _) ?ra12
        case ya12 =>
          intro wq hSw
          (try dsimp only at hSw)
          first | (go_simp; done) | (go_simp; with_reducible rfl)
        try simp only [Act.put, List.setIfInBounds_toArray, List.set_cons_zero, List.set_cons_succ]
        refine wpAnyH_take (i := 13) (oi := ⟨some 95, _, _, _, _, _⟩) (v := ?va13) rfl (by kernel_rfl) (by kernel_rfl) (by kernel_rfl) (fun _ _ _ h => h) (Or.inl ⟨by rfl, ?ya13⟩) (Fr.refl _ _) ?ra13
        case ya13 =>
          intro wq hSw
          (try dsimp only at hSw)
          first | (go_simp; done) | (go_simp; with_reducible rfl)
        try simp only [Act.put, List.setIfInBounds_toArray, List.set_cons_zero, List.set_cons_succ]
        refine wpAnyH_done (by kernel_rfl) ?_ _
        go_wp2_with fail
        go_roundw
        case rel => exact ⟨k + 1, _, _, by omega, by go_num, MZ.out, H4.out, LZ.out⟩
        case measure => simp [intOf]; omega
    · have hki : ¬ (k : Int) < (nf : Int) := by omega
      go_upto_region 15 with (fail)
      go_cut [17] (fun v wx => AtQ M wr v wx)
      case first =>
        go_wp2_with fail
        all_goals
          go_meet
          exact ⟨(max 0 (min at_ ((M : Int) - 1))).toNat, by omega, by congr 1; omega, rfl⟩
      case rest =>
        obtain ⟨q, hq, rfl, rfl⟩ := hcut
        go_wp2_with fail
        refine (Lr.out.flush DK (by rw [Hr.out.wait]; omega)).mono ?_; rintro e w3 ⟨he, hL, hF⟩
        rw [Hr.out.flushX] at he
        subst he
        have H3 := Lib.hid (Hr.out.flush (Lr.out.ok DK))
        obtain ⟨y, hy⟩ : ∃ y, y = x.flush1 := ⟨_, rfl⟩
        rw [← hy] at hL H3
        have L3 := Lib.hid hL
        have M3 := Lib.hid (Mr.out.frG hF)
        clear hL hF Lr Mr Hr hy
        go_wp2_with fail
        refine (full_any c _).mono ?_; rintro e w4 ⟨A4, n4, c4, rfl, hs, hb, -⟩
        have L4 := Lib.hid (L3.out.later DK hb)
        have M4 := Lib.hid (M3.out.laterB hb)
        have S4 := Lib.hid hs
        clear hs hb L3 M3
        go_wp2_with fail
        refine (L4.out.write DK (q : Int) A4 n4 c4 (full c) (by omega) (by omega) (by rw [H3.out.wait]; omega) S4.out).mono ?_; rintro e w5 ⟨he, hL, hF⟩
        rw [H3.out.writeX hq c] at he
        subst he
        have L5 := Lib.hid hL
        have M5 := Lib.hid (M4.out.frG hF)
        have Hw := Lib.hid (H3.out.write hq c).wait
        have HC := Lib.hid (H3.out.crash1 hq c ks (L4.out.ok DK))
        clear hL hF L4 M4 S4 H3
        go_wp2_with fail
        refine (L5.out.crash DK B nk cb ks (by rw [Hw.out]; omega) HK.out).mono ?_; rintro e w6 ⟨rfl, hL, hF⟩
        obtain ⟨v, hv⟩ : ∃ v, v = (y.write (q : Int) (full c)).crash ks := ⟨_, rfl⟩
        rw [← hv] at hL HC
        have L6 := Lib.hid hL
        have M6 := Lib.hid (M5.out.frG hF)
        clear hL hF L5 M5 Hw hv
        have hln : l.length = M := by
          have := HC.out.len
          split at this
          · rwa [List.length_set] at this
          · exact this
        go_wp2_with fail
        go_loopw [18] (fun i ws => ∃ j : Nat, j ≤ M ∧ i = .int .i64 (j : Int) ∧ Mine ws w1.heap.size 5 (some ⟨w1.heap.size, 0, none⟩) M (cells l) ∧ Lv Rep w ws (fun b => b = w1.heap.size) D v) (fun i _ => M - (intOf i).toNat)
        case atStart => exact ⟨0, by omega, rfl, M6.out, L6.out⟩
        case round =>
          obtain ⟨j, hj, rfl, hM, hL⟩ := hrel
          have Mr := Lib.hid hM
          have Lr := Lib.hid hL
          clear hM hL
          by_cases hlj : j < M
          · have hji : (j : Int) < (M : Int) := by omega
            go_wp2_with fail
            refine (Lr.out.read DK (j : Int) (by omega) (by omega) (by rw [HC.out.wait]; omega)).mono ?_; rintro e wy ⟨Ay, ny, cy, he, hN⟩
            rw [HC.out.readX hlj] at he
            rw [HC.out.readL hlj] at hN
            subst he
            have LY := Lib.hid ((Lr.out.later DK hN.2.1).later DK (Below.drew (Below.refl _ _)))
            have MY := Lib.hid ((Mr.out.laterB hN.2.1).laterB (Below.drew (Below.refl _ _)))
            obtain ⟨u, hu⟩ : ∃ u, l[j]? = some u := ⟨_, List.getElem?_eq_getElem (by omega)⟩
            obtain ⟨g', hg', hB', hcg, hzg⟩ := (Mr.out.laterB hN.2.1).at_ hlj hu
            injection hg' with hg'
            injection hg' with hg' _
            subst hg'
            by_cases hjq : j = q
            · subst hjq
              rcases Nat.eq_zero_or_pos nk with hn0 | hn0
              · have hnk : ¬ (0 : Int) < (nk : Int) := by omega
                clear hn0
                rw [held9 hu (fun h => by have := h.2; rw [first9_no HM.out (by omega)] at this; cases this)] at hN
                have SY := Lib.hid hN.1.drew
                clear hN Lr Mr
                go_wp2_with fail
                refine wp_region_held_drew (S := fun w' => Fr (fun _ => False) wy.drew w') (by kernel_rfl) (Fr.refl _ _) (fun hHeld => ?_)
                clear hHeld
                refine wpAnyH_take (i := 0) (oi := ⟨some 144, _, _, _, _, _⟩) (v := ?vb0) rfl (by kernel_rfl) (by kernel_rfl) (by kernel_rfl) (fun _ _ _ h => h) (Or.inl ⟨by rfl, ?yb0⟩) (Fr.refl _ _) ?rb0
                case yb0 =>
                  intro wq hSw
                  (try dsimp only at hSw)
                  first | (go_simp; done) | (go_simp; with_reducible rfl)
                try simp only [Act.put, List.setIfInBounds_toArray, List.set_cons_zero, List.set_cons_succ]
                refine wpAnyH_take (i := 1) (oi := ⟨some 145, _, _, _, _, _⟩) (v := ?vb1) rfl (by kernel_rfl) (by kernel_rfl) (by kernel_rfl) (fun _ _ _ h => h) (Or.inl ⟨by rfl, ?yb1⟩) (Fr.refl _ _) ?rb1
                case yb1 =>
                  intro wq hSw
                  (try dsimp only at hSw)
                  first | (go_simp; done) | (go_simp; with_reducible rfl)
                try simp only [Act.put, List.setIfInBounds_toArray, List.set_cons_zero, List.set_cons_succ]
                refine wpAnyH_take (i := 2) (oi := ⟨some 146, _, _, _, _, _⟩) (v := ?vb2) rfl (by kernel_rfl) (by kernel_rfl) (by kernel_rfl) (fun _ _ _ h => h) (Or.inl ⟨by rfl, ?yb2⟩) (Fr.refl _ _) ?rb2
                case yb2 =>
                  intro wq hSw
                  (try dsimp only at hSw)
                  first | (go_simp; done) | (go_simp; with_reducible rfl)
                try simp only [Act.put, List.setIfInBounds_toArray, List.set_cons_zero, List.set_cons_succ]
                refine wpAnyH_take (i := 3) (oi := ⟨some 147, _, _, _, _, _⟩) (v := ?vb3) rfl (by kernel_rfl) (by kernel_rfl) (by kernel_rfl) (fun _ _ _ h => h) (Or.inl ⟨by rfl, ?yb3⟩) (Fr.refl _ _) ?rb3
                case yb3 =>
                  intro wq hSw
                  (try dsimp only at hSw)
                  first | (go_simp; done) | (go_simp; with_reducible rfl)
                try simp only [Act.put, List.setIfInBounds_toArray, List.set_cons_zero, List.set_cons_succ]
                refine wpAnyH_take (i := 4) (oi := ⟨some 148, _, _, _, _, _⟩) (v := ?vb4) rfl (by kernel_rfl) (by kernel_rfl) (by kernel_rfl) (fun _ _ _ h => h) (Or.inl ⟨by rfl, ?yb4⟩) (Fr.refl _ _) ?rb4
                case yb4 =>
                  intro wq hSw
                  (try dsimp only at hSw)
                  have kk := str_of (SY.out.fr hSw (fun _ _ _ _ h => h))
                  first | (go_simp; done) | (go_simp; with_reducible rfl)
                try simp only [Act.put, List.setIfInBounds_toArray, List.set_cons_zero, List.set_cons_succ]
                refine wpAnyH_take (i := 5) (oi := ⟨some 149, _, _, _, _, _⟩) (v := ?vb5) rfl (by kernel_rfl) (by kernel_rfl) (by kernel_rfl) (fun _ _ _ h => h) (Or.inl ⟨by rfl, ?yb5⟩) (Fr.refl _ _) ?rb5
                case yb5 =>
                  intro wq hSw
                  (try dsimp only at hSw)
                  first | (go_simp; done) | (go_simp; with_reducible rfl)
                try simp only [Act.put, List.setIfInBounds_toArray, List.set_cons_zero, List.set_cons_succ]
                refine wpAnyH_ready (rs := [6]) (by kernel_rfl) (by simp) ?_
                refine AllReadyH.cons (o := ⟨some 150, _, _, _, _, _⟩) rfl (fun K hK => ?_) AllReadyH.nil
                go_simp
                refine (full_any u _).mono ?_; rintro e wz ⟨Az, nz, cz, rfl, hz1, hz2, -⟩
                have LZ := Lib.hid (LY.out.later DK hz2)
                have MZ := Lib.hid (MY.out.laterB hz2)
                have SZ := Lib.hid hz1
                have SX := Lib.hid (SY.out.below hz2 (Nat.le_refl _))
                have hfr := Fr.of_below (S := fun _ => False) hz2
                clear hz1 hz2
                go_wp2_with fail
                refine hK.out _ _ hfr (fun hHeld => ?_)
                clear hK K hHeld
                try simp only [Act.put, List.setIfInBounds_toArray, List.set_cons_zero, List.set_cons_succ]
                refine wpAnyH_re (S' := fun w' => Fr (fun _ => False) wz w') (fun w' h => hfr.trans h) ?_
                clear hfr
                refine wpAnyH_take (i := 7) (oi := ⟨some 151, _, _, _, _, _⟩) (v := ?vb7) rfl (by kernel_rfl) (by kernel_rfl) (by kernel_rfl) (fun _ _ _ h => h) (Or.inl ⟨by rfl, ?yb7⟩) (Fr.refl _ _) ?rb7
                case yb7 =>
                  intro wq hSw
                  (try dsimp only at hSw)
                  have kk := str_of (SZ.out.fr hSw (fun _ _ _ _ h => h))
                  first | (go_simp; done) | (go_simp; with_reducible rfl)
                try simp only [Act.put, List.setIfInBounds_toArray, List.set_cons_zero, List.set_cons_succ]
                refine wpAnyH_take (i := 8) (oi := ⟨some 152, _, _, _, _, _⟩) (v := ?vb8) rfl (by kernel_rfl) (by kernel_rfl) (by kernel_rfl) (fun _ _ _ h => h) (Or.inl ⟨by rfl, ?yb8⟩) (Fr.refl _ _) ?rb8
                case yb8 =>
                  intro wq hSw
                  (try dsimp only at hSw)
                  first | (go_simp; done) | (go_simp; with_reducible rfl)
                try simp only [Act.put, List.setIfInBounds_toArray, List.set_cons_zero, List.set_cons_succ]
                refine wpAnyH_take (i := 9) (oi := ⟨some 153, _, _, _, _, _⟩) (v := ?vb9) rfl (by kernel_rfl) (by kernel_rfl) (by kernel_rfl) (fun _ _ _ h => h) (Or.inl ⟨by rfl, ?yb9⟩) (Fr.refl _ _) ?rb9
                case yb9 =>
                  intro wq hSw
                  (try dsimp only at hSw)
                  first | (go_simp; done) | (go_simp; with_reducible rfl)
                try simp only [Act.put, List.setIfInBounds_toArray, List.set_cons_zero, List.set_cons_succ]
                refine wpAnyH_done (by kernel_rfl) ?_ _
                go_wp2_with fail
                go_roundw
                case rel => exact ⟨j + 1, by omega, by go_num, MZ.out, LZ.out⟩
                case measure => simp [intOf]; omega
              · have hnk : (0 : Int) < (nk : Int) := by omega
                have KB := Lib.hid (HK.out.below LY.out.bel (Nat.le_refl _))
                obtain ⟨bk, ok, rfl, hck⟩ := (HK.out.below (Lr.out.later DK hN.2.1).bel (Nat.le_refl _)).at_ hn0
                have hcb := hck 0 _ (first9 HM.out hn0)
                rw [Nat.add_zero] at hcb
                clear hck
                cases hb0 : ks.getD 0 false with
                | true =>
                  rw [hb0] at hcb
                  rw [held9_yes (by omega) hb0] at hN
                  have SY := Lib.hid hN.1.drew
                  clear hN Lr Mr
                  go_wp2_with fail
                  refine wp_region_held_drew (S := fun w' => Fr (fun _ => False) wy.drew w') (by kernel_rfl) (Fr.refl _ _) (fun hHeld => ?_)
                  clear hHeld
                  refine wpAnyH_take (i := 0) (oi := ⟨some 144, _, _, _, _, _⟩) (v := ?vd0) rfl (by kernel_rfl) (by kernel_rfl) (by kernel_rfl) (fun _ _ _ h => h) (Or.inl ⟨by rfl, ?yd0⟩) (Fr.refl _ _) ?rd0
                  case yd0 =>
                    intro wq hSw
                    (try dsimp only at hSw)
                    first | (go_simp; done) | (go_simp; with_reducible rfl)
                  try simp only [Act.put, List.setIfInBounds_toArray, List.set_cons_zero, List.set_cons_succ]
                  refine wpAnyH_take (i := 1) (oi := ⟨some 145, _, _, _, _, _⟩) (v := ?vd1) rfl (by kernel_rfl) (by kernel_rfl) (by kernel_rfl) (fun _ _ _ h => h) (Or.inl ⟨by rfl, ?yd1⟩) (Fr.refl _ _) ?rd1
                  case yd1 =>
                    intro wq hSw
                    (try dsimp only at hSw)
                    first | (go_simp; done) | (go_simp; with_reducible rfl)
                  try simp only [Act.put, List.setIfInBounds_toArray, List.set_cons_zero, List.set_cons_succ]
                  refine wpAnyH_take (i := 2) (oi := ⟨some 146, _, _, _, _, _⟩) (v := ?vd2) rfl (by kernel_rfl) (by kernel_rfl) (by kernel_rfl) (fun _ _ _ h => h) (Or.inl ⟨by rfl, ?yd2⟩) (Fr.refl _ _) ?rd2
                  case yd2 =>
                    intro wq hSw
                    (try dsimp only at hSw)
                    first | (go_simp; done) | (go_simp; with_reducible rfl)
                  try simp only [Act.put, List.setIfInBounds_toArray, List.set_cons_zero, List.set_cons_succ]
                  refine wpAnyH_take (i := 3) (oi := ⟨some 147, _, _, _, _, _⟩) (v := ?vd3) rfl (by kernel_rfl) (by kernel_rfl) (by kernel_rfl) (fun _ _ _ h => h) (Or.inl ⟨by rfl, ?yd3⟩) (Fr.refl _ _) ?rd3
                  case yd3 =>
                    intro wq hSw
                    (try dsimp only at hSw)
                    first | (go_simp; done) | (go_simp; with_reducible rfl)
                  try simp only [Act.put, List.setIfInBounds_toArray, List.set_cons_zero, List.set_cons_succ]
                  refine wpAnyH_take (i := 4) (oi := ⟨some 148, _, _, _, _, _⟩) (v := ?vd4) rfl (by kernel_rfl) (by kernel_rfl) (by kernel_rfl) (fun _ _ _ h => h) (Or.inl ⟨by rfl, ?yd4⟩) (Fr.refl _ _) ?rd4
                  case yd4 =>
                    intro wq hSw
                    (try dsimp only at hSw)
                    have kk := str_of (SY.out.fr hSw (fun _ _ _ _ h => h))
                    first | (go_simp; done) | (go_simp; with_reducible rfl)
                  try simp only [Act.put, List.setIfInBounds_toArray, List.set_cons_zero, List.set_cons_succ]
                  refine wpAnyH_take (i := 5) (oi := ⟨some 149, _, _, _, _, _⟩) (v := ?vd5) rfl (by kernel_rfl) (by kernel_rfl) (by kernel_rfl) (fun _ _ _ h => h) (Or.inl ⟨by rfl, ?yd5⟩) (Fr.refl _ _) ?rd5
                  case yd5 =>
                    intro wq hSw
                    (try dsimp only at hSw)
                    first | (go_simp; done) | (go_simp; with_reducible rfl)
                  try simp only [Act.put, List.setIfInBounds_toArray, List.set_cons_zero, List.set_cons_succ]
                  refine wpAnyH_ready (rs := [6]) (by kernel_rfl) (by simp) ?_
                  refine AllReadyH.cons (o := ⟨some 150, _, _, _, _, _⟩) rfl (fun K hK => ?_) AllReadyH.nil
                  go_simp
                  refine (full_any c _).mono ?_; rintro e wz ⟨Az, nz, cz, rfl, hz1, hz2, -⟩
                  have LZ := Lib.hid (LY.out.later DK hz2)
                  have MZ := Lib.hid (MY.out.laterB hz2)
                  have SZ := Lib.hid hz1
                  have SX := Lib.hid (SY.out.below hz2 (Nat.le_refl _))
                  have hfr := Fr.of_below (S := fun _ => False) hz2
                  clear hz1 hz2
                  go_wp2_with fail
                  refine hK.out _ _ hfr (fun hHeld => ?_)
                  clear hK K hHeld
                  try simp only [Act.put, List.setIfInBounds_toArray, List.set_cons_zero, List.set_cons_succ]
                  refine wpAnyH_re (S' := fun w' => Fr (fun _ => False) wz w') (fun w' h => hfr.trans h) ?_
                  clear hfr
                  refine wpAnyH_take (i := 7) (oi := ⟨some 151, _, _, _, _, _⟩) (v := ?vd7) rfl (by kernel_rfl) (by kernel_rfl) (by kernel_rfl) (fun _ _ _ h => h) (Or.inl ⟨by rfl, ?yd7⟩) (Fr.refl _ _) ?rd7
                  case yd7 =>
                    intro wq hSw
                    (try dsimp only at hSw)
                    have kk := str_of (SZ.out.fr hSw (fun _ _ _ _ h => h))
                    first | (go_simp; done) | (go_simp; with_reducible rfl)
                  try simp only [Act.put, List.setIfInBounds_toArray, List.set_cons_zero, List.set_cons_succ]
                  refine wpAnyH_take (i := 8) (oi := ⟨some 152, _, _, _, _, _⟩) (v := ?vd8) rfl (by kernel_rfl) (by kernel_rfl) (by kernel_rfl) (fun _ _ _ h => h) (Or.inl ⟨by rfl, ?yd8⟩) (Fr.refl _ _) ?rd8
                  case yd8 =>
                    intro wq hSw
                    (try dsimp only at hSw)
                    first | (go_simp; done) | (go_simp; with_reducible rfl)
                  try simp only [Act.put, List.setIfInBounds_toArray, List.set_cons_zero, List.set_cons_succ]
                  refine wpAnyH_take (i := 9) (oi := ⟨some 153, _, _, _, _, _⟩) (v := ?vd9) rfl (by kernel_rfl) (by kernel_rfl) (by kernel_rfl) (fun _ _ _ h => h) (Or.inl ⟨by rfl, ?yd9⟩) (Fr.refl _ _) ?rd9
                  case yd9 =>
                    intro wq hSw
                    (try dsimp only at hSw)
                    first | (go_simp; done) | (go_simp; with_reducible rfl)
                  try simp only [Act.put, List.setIfInBounds_toArray, List.set_cons_zero, List.set_cons_succ]
                  refine wpAnyH_done (by kernel_rfl) ?_ _
                  go_wp2_with fail
                  go_roundw
                  case rel => exact ⟨j + 1, by omega, by go_num, MZ.out, LZ.out⟩
                  case measure => simp [intOf]; omega
                | false =>
                  rw [hb0] at hcb
                  rw [held9 hu (fun h => by have := h.2; rw [hb0] at this; cases this)] at hN
                  have SY := Lib.hid hN.1.drew
                  clear hN Lr Mr
                  go_wp2_with fail
                  refine wp_region_held_drew (S := fun w' => Fr (fun _ => False) wy.drew w') (by kernel_rfl) (Fr.refl _ _) (fun hHeld => ?_)
                  clear hHeld
                  refine wpAnyH_take (i := 0) (oi := ⟨some 144, _, _, _, _, _⟩) (v := ?vf0) rfl (by kernel_rfl) (by kernel_rfl) (by kernel_rfl) (fun _ _ _ h => h) (Or.inl ⟨by rfl, ?yf0⟩) (Fr.refl _ _) ?rf0
                  case yf0 =>
                    intro wq hSw
                    (try dsimp only at hSw)
                    first | (go_simp; done) | (go_simp; with_reducible rfl)
                  try simp only [Act.put, List.setIfInBounds_toArray, List.set_cons_zero, List.set_cons_succ]
                  refine wpAnyH_take (i := 1) (oi := ⟨some 145, _, _, _, _, _⟩) (v := ?vf1) rfl (by kernel_rfl) (by kernel_rfl) (by kernel_rfl) (fun _ _ _ h => h) (Or.inl ⟨by rfl, ?yf1⟩) (Fr.refl _ _) ?rf1
                  case yf1 =>
                    intro wq hSw
                    (try dsimp only at hSw)
                    first | (go_simp; done) | (go_simp; with_reducible rfl)
                  try simp only [Act.put, List.setIfInBounds_toArray, List.set_cons_zero, List.set_cons_succ]
                  refine wpAnyH_take (i := 2) (oi := ⟨some 146, _, _, _, _, _⟩) (v := ?vf2) rfl (by kernel_rfl) (by kernel_rfl) (by kernel_rfl) (fun _ _ _ h => h) (Or.inl ⟨by rfl, ?yf2⟩) (Fr.refl _ _) ?rf2
                  case yf2 =>
                    intro wq hSw
                    (try dsimp only at hSw)
                    first | (go_simp; done) | (go_simp; with_reducible rfl)
                  try simp only [Act.put, List.setIfInBounds_toArray, List.set_cons_zero, List.set_cons_succ]
                  refine wpAnyH_take (i := 3) (oi := ⟨some 147, _, _, _, _, _⟩) (v := ?vf3) rfl (by kernel_rfl) (by kernel_rfl) (by kernel_rfl) (fun _ _ _ h => h) (Or.inl ⟨by rfl, ?yf3⟩) (Fr.refl _ _) ?rf3
                  case yf3 =>
                    intro wq hSw
                    (try dsimp only at hSw)
                    first | (go_simp; done) | (go_simp; with_reducible rfl)
                  try simp only [Act.put, List.setIfInBounds_toArray, List.set_cons_zero, List.set_cons_succ]
                  refine wpAnyH_take (i := 4) (oi := ⟨some 148, _, _, _, _, _⟩) (v := ?vf4) rfl (by kernel_rfl) (by kernel_rfl) (by kernel_rfl) (fun _ _ _ h => h) (Or.inl ⟨by rfl, ?yf4⟩) (Fr.refl _ _) ?rf4
                  case yf4 =>
                    intro wq hSw
                    (try dsimp only at hSw)
                    have kk := str_of (SY.out.fr hSw (fun _ _ _ _ h => h))
                    first | (go_simp; done) | (go_simp; with_reducible rfl)
                  try simp only [Act.put, List.setIfInBounds_toArray, List.set_cons_zero, List.set_cons_succ]
                  refine wpAnyH_take (i := 5) (oi := ⟨some 149, _, _, _, _, _⟩) (v := ?vf5) rfl (by kernel_rfl) (by kernel_rfl) (by kernel_rfl) (fun _ _ _ h => h) (Or.inl ⟨by rfl, ?yf5⟩) (Fr.refl _ _) ?rf5
                  case yf5 =>
                    intro wq hSw
                    (try dsimp only at hSw)
                    first | (go_simp; done) | (go_simp; with_reducible rfl)
                  try simp only [Act.put, List.setIfInBounds_toArray, List.set_cons_zero, List.set_cons_succ]
                  refine wpAnyH_ready (rs := [6]) (by kernel_rfl) (by simp) ?_
                  refine AllReadyH.cons (o := ⟨some 150, _, _, _, _, _⟩) rfl (fun K hK => ?_) AllReadyH.nil
                  go_simp
                  refine (full_any u _).mono ?_; rintro e wz ⟨Az, nz, cz, rfl, hz1, hz2, -⟩
                  have LZ := Lib.hid (LY.out.later DK hz2)
                  have MZ := Lib.hid (MY.out.laterB hz2)
                  have SZ := Lib.hid hz1
                  have SX := Lib.hid (SY.out.below hz2 (Nat.le_refl _))
                  have hfr := Fr.of_below (S := fun _ => False) hz2
                  clear hz1 hz2
                  go_wp2_with fail
                  refine hK.out _ _ hfr (fun hHeld => ?_)
                  clear hK K hHeld
                  try simp only [Act.put, List.setIfInBounds_toArray, List.set_cons_zero, List.set_cons_succ]
                  refine wpAnyH_re (S' := fun w' => Fr (fun _ => False) wz w') (fun w' h => hfr.trans h) ?_
                  clear hfr
                  refine wpAnyH_take (i := 7) (oi := ⟨some 151, _, _, _, _, _⟩) (v := ?vf7) rfl (by kernel_rfl) (by kernel_rfl) (by kernel_rfl) (fun _ _ _ h => h) (Or.inl ⟨by rfl, ?yf7⟩) (Fr.refl _ _) ?rf7
                  case yf7 =>
                    intro wq hSw
                    (try dsimp only at hSw)
                    have kk := str_of (SZ.out.fr hSw (fun _ _ _ _ h => h))
                    first | (go_simp; done) | (go_simp; with_reducible rfl)
                  try simp only [Act.put, List.setIfInBounds_toArray, List.set_cons_zero, List.set_cons_succ]
                  refine wpAnyH_take (i := 8) (oi := ⟨some 152, _, _, _, _, _⟩) (v := ?vf8) rfl (by kernel_rfl) (by kernel_rfl) (by kernel_rfl) (fun _ _ _ h => h) (Or.inl ⟨by rfl, ?yf8⟩) (Fr.refl _ _) ?rf8
                  case yf8 =>
                    intro wq hSw
                    (try dsimp only at hSw)
                    first | (go_simp; done) | (go_simp; with_reducible rfl)
                  try simp only [Act.put, List.setIfInBounds_toArray, List.set_cons_zero, List.set_cons_succ]
                  refine wpAnyH_take (i := 9) (oi := ⟨some 153, _, _, _, _, _⟩) (v := ?vf9) rfl (by kernel_rfl) (by kernel_rfl) (by kernel_rfl) (fun _ _ _ h => h) (Or.inl ⟨by rfl, ?yf9⟩) (Fr.refl _ _) ?rf9
                  case yf9 =>
                    intro wq hSw
                    (try dsimp only at hSw)
                    first | (go_simp; done) | (go_simp; with_reducible rfl)
                  try simp only [Act.put, List.setIfInBounds_toArray, List.set_cons_zero, List.set_cons_succ]
                  refine wpAnyH_done (by kernel_rfl) ?_ _
                  go_wp2_with fail
                  go_roundw
                  case rel => exact ⟨j + 1, by omega, by go_num, MZ.out, LZ.out⟩
                  case measure => simp [intOf]; omega
            · have hji' : ¬ (j : Int) = (q : Int) := by omega
              rw [held9 hu (fun h => hjq h.1)] at hN
              have SY := Lib.hid hN.1.drew
              clear hN Lr Mr
              go_wp2_with fail
              refine wp_region_held_drew (S := fun w' => Fr (fun _ => False) wy.drew w') (by kernel_rfl) (Fr.refl _ _) (fun hHeld => ?_)
              clear hHeld
              refine wpAnyH_take (i := 0) (oi := ⟨some 144, _, _, _, _, _⟩) (v := ?vh0) rfl (by kernel_rfl) (by kernel_rfl) (by kernel_rfl) (fun _ _ _ h => h) (Or.inl ⟨by rfl, ?yh0⟩) (Fr.refl _ _) ?rh0
              case yh0 =>
                intro wq hSw
                (try dsimp only at hSw)
                first | (go_simp; done) | (go_simp; with_reducible rfl)
              try simp only [Act.put, List.setIfInBounds_toArray, List.set_cons_zero, List.set_cons_succ]
              refine wpAnyH_take (i := 1) (oi := ⟨some 145, _, _, _, _, _⟩) (v := ?vh1) rfl (by kernel_rfl) (by kernel_rfl) (by kernel_rfl) (fun _ _ _ h => h) (Or.inl ⟨by rfl, ?yh1⟩) (Fr.refl _ _) ?rh1
              case yh1 =>
                intro wq hSw
                (try dsimp only at hSw)
                first | (go_simp; done) | (go_simp; with_reducible rfl)
              try simp only [Act.put, List.setIfInBounds_toArray, List.set_cons_zero, List.set_cons_succ]
              refine wpAnyH_take (i := 2) (oi := ⟨some 146, _, _, _, _, _⟩) (v := ?vh2) rfl (by kernel_rfl) (by kernel_rfl) (by kernel_rfl) (fun _ _ _ h => h) (Or.inl ⟨by rfl, ?yh2⟩) (Fr.refl _ _) ?rh2
              case yh2 =>
                intro wq hSw
                (try dsimp only at hSw)
                first | (go_simp; done) | (go_simp; with_reducible rfl)
              try simp only [Act.put, List.setIfInBounds_toArray, List.set_cons_zero, List.set_cons_succ]
              refine wpAnyH_take (i := 3) (oi := ⟨some 147, _, _, _, _, _⟩) (v := ?vh3) rfl (by kernel_rfl) (by kernel_rfl) (by kernel_rfl) (fun _ _ _ h => h) (Or.inl ⟨by rfl, ?yh3⟩) (Fr.refl _ _) ?rh3
              case yh3 =>
                intro wq hSw
                (try dsimp only at hSw)
                first | (go_simp; done) | (go_simp; with_reducible rfl)
              try simp only [Act.put, List.setIfInBounds_toArray, List.set_cons_zero, List.set_cons_succ]
              refine wpAnyH_take (i := 4) (oi := ⟨some 148, _, _, _, _, _⟩) (v := ?vh4) rfl (by kernel_rfl) (by kernel_rfl) (by kernel_rfl) (fun _ _ _ h => h) (Or.inl ⟨by rfl, ?yh4⟩) (Fr.refl _ _) ?rh4
              case yh4 =>
                intro wq hSw
                (try dsimp only at hSw)
                have kk := str_of (SY.out.fr hSw (fun _ _ _ _ h => h))
                first | (go_simp; done) | (go_simp; with_reducible rfl)
              try simp only [Act.put, List.setIfInBounds_toArray, List.set_cons_zero, List.set_cons_succ]
              refine wpAnyH_take (i := 5) (oi := ⟨some 149, _, _, _, _, _⟩) (v := ?vh5) rfl (by kernel_rfl) (by kernel_rfl) (by kernel_rfl) (fun _ _ _ h => h) (Or.inl ⟨by rfl, ?yh5⟩) (Fr.refl _ _) ?rh5
              case yh5 =>
                intro wq hSw
                (try dsimp only at hSw)
                first | (go_simp; done) | (go_simp; with_reducible rfl)
              try simp only [Act.put, List.setIfInBounds_toArray, List.set_cons_zero, List.set_cons_succ]
              refine wpAnyH_ready (rs := [6]) (by kernel_rfl) (by simp) ?_
              refine AllReadyH.cons (o := ⟨some 150, _, _, _, _, _⟩) rfl (fun K hK => ?_) AllReadyH.nil
              go_simp
              refine (full_any u _).mono ?_; rintro e wz ⟨Az, nz, cz, rfl, hz1, hz2, -⟩
              have LZ := Lib.hid (LY.out.later DK hz2)
              have MZ := Lib.hid (MY.out.laterB hz2)
              have SZ := Lib.hid hz1
              have SX := Lib.hid (SY.out.below hz2 (Nat.le_refl _))
              have hfr := Fr.of_below (S := fun _ => False) hz2
              clear hz1 hz2
              go_wp2_with fail
              refine hK.out _ _ hfr (fun hHeld => ?_)
              clear hK K hHeld
              try simp only [Act.put, List.setIfInBounds_toArray, List.set_cons_zero, List.set_cons_succ]
              refine wpAnyH_re (S' := fun w' => Fr (fun _ => False) wz w') (fun w' h => hfr.trans h) ?_
              clear hfr
              refine wpAnyH_take (i := 7) (oi := ⟨some 151, _, _, _, _, _⟩) (v := ?vh7) rfl (by kernel_rfl) (by kernel_rfl) (by kernel_rfl) (fun _ _ _ h => h) (Or.inl ⟨by rfl, ?yh7⟩) (Fr.refl _ _) ?rh7
              case yh7 =>
                intro wq hSw
                (try dsimp only at hSw)
                have kk := str_of (SZ.out.fr hSw (fun _ _ _ _ h => h))
                first | (go_simp; done) | (go_simp; with_reducible rfl)
              try simp only [Act.put, List.setIfInBounds_toArray, List.set_cons_zero, List.set_cons_succ]
              refine wpAnyH_take (i := 8) (oi := ⟨some 152, _, _, _, _, _⟩) (v := ?vh8) rfl (by kernel_rfl) (by kernel_rfl) (by kernel_rfl) (fun _ _ _ h => h) (Or.inl ⟨by rfl, ?yh8⟩) (Fr.refl _ _) ?rh8
              case yh8 =>
                intro wq hSw
                (try dsimp only at hSw)
                first | (go_simp; done) | (go_simp; with_reducible rfl)
              try simp only [Act.put, List.setIfInBounds_toArray, List.set_cons_zero, List.set_cons_succ]
              refine wpAnyH_take (i := 9) (oi := ⟨some 153, _, _, _, _, _⟩) (v := ?vh9) rfl (by kernel_rfl) (by kernel_rfl) (by kernel_rfl) (fun _ _ _ h => h) (Or.inl ⟨by rfl, ?yh9⟩) (Fr.refl _ _) ?rh9
              case yh9 =>
                intro wq hSw
                (try dsimp only at hSw)
                first | (go_simp; done) | (go_simp; with_reducible rfl)
              try simp only [Act.put, List.setIfInBounds_toArray, List.set_cons_zero, List.set_cons_succ]
              refine wpAnyH_done (by kernel_rfl) ?_ _
              go_wp2_with fail
              go_roundw
              case rel => exact ⟨j + 1, by omega, by go_num, MZ.out, LZ.out⟩
              case measure => simp [intOf]; omega
          · have hji : ¬ (j : Int) < (M : Int) := by omega
            go_wp2_with fail
            refine (stores9_any DK _).mono ?_; rintro e wz ⟨rfl, hbz⟩
            have LZ := Lib.hid (Lr.out.later DK hbz)
            clear hbz
            go_wp2_with fail
            go_ret
            exact ⟨rfl, LZ.out.bel⟩
end Go.Proofs.Ytmlmlmlbdjhfhaa
