/-
  DriveCrashes over DrvK: it returns true, whatever its arguments. (Written by gen_drj.py.)
-/
import Derived.Test.YtmlmlmlbdjhfhaaDri
import Derived.Test.YtmlmlmlbdjhfhaaDrf
import Derived.Deep.RegionHeld3
import Derived.Deep.DeepCutAuto
namespace Go.Proofs.Ytmlmlmlbdjhfhaa
open Go.RowKit Go.Proofs
set_option linter.unusedVariables false
set_option linter.unusedSimpArgs false

set_option maxRecDepth 20000 in
set_option maxHeartbeats 6400000 in
theorem driveCrashes_any {Rep : World → (Nat → Prop) → Nat → Dv → Prop} (DK : DrvK Rep) (n : Int) (A : Option Addr) (ca : Nat) (its : List (Int × UInt8)) (A2 : Option Addr) (c2 : Nat) (its2 : List (Int × UInt8)) (B : Option Addr) (cb : Nat) (ks : List Bool) (w : World) (bn : -9223372036854775808 ≤ n ∧ n < 9223372036854775808) (hp : Puts w A its.length ca its) (hp2 : Puts w A2 its2.length c2 its2) (bz : ∀ x ∈ its2, -9223372036854775808 ≤ x.1 ∧ x.1 < 9223372036854775808) (hk : Sl w 1 B ks.length cb (bcells ks)) :
    Calls Try.prog 3 #[.int .i64 n, .slice A its.length ca, .slice A2 its2.length c2, .slice B ks.length cb] w (SaysTrue w) := by
  obtain ⟨nf, hnf⟩ : ∃ x, x = its.length := ⟨_, rfl⟩
  obtain ⟨nl, hnl⟩ : ∃ x, x = its2.length := ⟨_, rfl⟩
  obtain ⟨nk, hnk⟩ : ∃ x, x = ks.length := ⟨_, rfl⟩
  rw [← hnf] at hp ⊢
  rw [← hnl] at hp2 ⊢
  rw [← hnk] at hk ⊢
  have HP := Lib.hid hp
  have HQ := Lib.hid hp2
  have HK := Lib.hid hk
  have HN := Lib.hid hnf
  have HL := Lib.hid hnl
  have HM := Lib.hid hnk
  clear hp hp2 hk hnf hnl hnk
  by_cases g0 : n < 1
  · go_enter Try.func3, Try.ntmps3
    go_wp2_with fail
    refine (stores9_any DK _).mono ?_; rintro e wz ⟨rfl, hbz⟩
    go_wp2_with fail
    go_ret
    exact ⟨rfl, hbz⟩
  by_cases g1 : 20 < n
  · go_enter Try.func3, Try.ntmps3
    go_wp2_with fail
    refine (stores9_any DK _).mono ?_; rintro e wz ⟨rfl, hbz⟩
    go_wp2_with fail
    go_ret
    exact ⟨rfl, hbz⟩
  by_cases g2 : (100 : Int) < (nf : Int)
  · go_enter Try.func3, Try.ntmps3
    go_wp2_with fail
    refine (stores9_any DK _).mono ?_; rintro e wz ⟨rfl, hbz⟩
    go_wp2_with fail
    go_ret
    exact ⟨rfl, hbz⟩
  by_cases g3 : (100 : Int) < (nl : Int)
  · go_enter Try.func3, Try.ntmps3
    go_wp2_with fail
    refine (stores9_any DK _).mono ?_; rintro e wz ⟨rfl, hbz⟩
    go_wp2_with fail
    go_ret
    exact ⟨rfl, hbz⟩
  by_cases g4 : (200 : Int) < (nk : Int)
  · go_enter Try.func3, Try.ntmps3
    go_wp2_with fail
    refine (stores9_any DK _).mono ?_; rintro e wz ⟨rfl, hbz⟩
    go_wp2_with fail
    go_ret
    exact ⟨rfl, hbz⟩
  obtain ⟨M, rfl⟩ : ∃ M : Nat, n = (M : Int) := ⟨n.toNat, by omega⟩
  have hmk := make_eq (M : Int) M rfl (by omega)
  go_enter Try.func3, Try.ntmps3
  go_wp2_with fail
  refine (Lv.new DK (Below.refl _ _) (X := fun _ => False) (fun _ h => h.elim) M (by omega) (by omega)).mono ?_; rintro e w1 ⟨D, rfl, hL, -⟩
  have L1 := Lib.hid hL
  clear hL
  go_wp2_with fail
  have M2 := Lib.hid (Mine.noughts w1 M)
  have L2 := Lib.hid (L1.out.block DK (.cells (madeCells #[.int .u8 0] M) 5))
  have HG := Lib.hid (show w.heap.size ≤ w1.heap.size from L1.out.bel.size)
  clear hmk L1
  go_loopw [11] (fun i wr => ∃ (k : Nat) (l : List UInt8) (x : Dv), k ≤ nf ∧ i = .int .i64 (k : Int) ∧ Mine wr w1.heap.size 5 (some ⟨w1.heap.size, 0, none⟩) M (cells l) ∧ Hol x M k l ∧ Lv Rep w wr (fun b => b = w1.heap.size) D x) (fun i _ => nf - (intOf i).toNat)
  case atStart => exact ⟨0, _, _, by omega, rfl, M2.out, Hol.new M, L2.out⟩
  case round =>
    obtain ⟨k, l, x, hk, rfl, hM, hH, hL⟩ := hrel
    have Mr := Lib.hid hM
    have Hr := Lib.hid hH
    have Lr := Lib.hid hL
    clear hM hH hL
    by_cases hlt : k < nf
    · have hki : (k : Int) < (nf : Int) := by omega
      obtain ⟨z, cc, hx⟩ : ∃ z cc, its[k]? = some (z, cc) := ⟨_, _, List.getElem?_eq_getElem (by rw [← HN.out]; exact hlt)⟩
      have Hx := Lib.hid hx
      obtain ⟨bb, oo, rfl, hc1, hc2⟩ := (HP.out.below Lr.out.bel).cell k _ hx
      simp only at hc1 hc2
      clear hx
      go_upto_region 8 with (fail)
      go_cut [12] (fun v wx => AtQ M wr v wx)
      case first =>
        go_wp2_with fail
        all_goals
          go_meet
          exact ⟨(max 0 (min z ((M : Int) - 1))).toNat, by omega, by congr 1; omega, rfl⟩
      case rest =>
        obtain ⟨q, hq, rfl, rfl⟩ := hcut
        go_wp2_with fail
        refine (full_any cc _).mono ?_; rintro e w3 ⟨A3, n3, c3, rfl, hs, hb, -⟩
        have L3 := Lib.hid (Lr.out.later DK hb)
        have M3 := Lib.hid (Mr.out.laterB hb)
        have S3 := Lib.hid hs
        clear hs hb
        go_wp2_with fail
        refine (L3.out.write DK (q : Int) A3 n3 c3 (full cc) (by omega) (by omega) (by rw [Hr.out.wait]; omega) S3.out).mono ?_; rintro e w4 ⟨he, hL, hF⟩
        rw [Hr.out.writeX hq cc] at he
        subst he
        obtain ⟨y, hy⟩ : ∃ y, y = x.write (q : Int) (full cc) := ⟨_, rfl⟩
        rw [← hy] at hL
        have H4 := Lib.hid (show Hol y M (k + 1) (l.set q cc) by rw [hy]; exact Hr.out.write hq cc)
        have L4 := Lib.hid hL
        have hM4 := M3.out.frG hF
        have hln : l.length = M := Hr.out.len
        obtain ⟨u, hu⟩ : ∃ u, l[q]? = some u := ⟨_, List.getElem?_eq_getElem (by omega)⟩
        obtain ⟨g', hg', hB', hcg, hzg⟩ := hM4.at_ hq hu
        injection hg' with hg'
        injection hg' with hg' _
        subst hg'
        have M5 := Lib.hid (hM4.set hq cc)
        obtain ⟨bx, ox, hbx, _, hc3⟩ := (HP.out.below L4.out.bel).cell k _ Hx.out
        injection hbx with hbx
        injection hbx with hbx hox
        subst hbx hox
        have L5 := Lib.hid (L4.out.frX DK ((Fr.refl (fun b => b = w1.heap.size) w4).setCell (p := ⟨w1.heap.size, q, none⟩) (Or.inr rfl) (.int .u8 (cc.toNat : Int))) (fun b hb => by have hb : b = w1.heap.size := hb; rw [hb]; exact HG.out))
        clear hL hF hM4 hy M3 L3 S3 Mr Lr Hr hu hc1 hc2
        simp only at hc3
        go_wp2_with fail
        go_roundw
        case rel => exact ⟨k + 1, _, _, by omega, by go_num, M5.out, H4.out, L5.out⟩
        case measure => simp [intOf]; omega
    · have hki : ¬ (k : Int) < (nf : Int) := by omega
      go_wp2_with fail
      refine (Lr.out.flush DK (by rw [Hr.out.wait]; omega)).mono ?_; rintro e w3 ⟨he, hL, hF⟩
      rw [Hr.out.flushX] at he
      subst he
      have hwt := Wt.of_hol (Hr.out.flush (Lr.out.ok DK)) (hL.ok DK)
      have WA := Lib.hid (show Wt x.flush1 M l (pt9 M its2 0) from hwt)
      have LA := Lib.hid hL
      have MA := Lib.hid (Mr.out.frG hF)
      clear hL hF Lr Mr Hr hwt
      go_wp2_with fail
      go_loopw [13] (fun i wr => ∃ (k : Nat) (x : Dv), k ≤ nl ∧ i = .int .i64 (k : Int) ∧ Wt x M l (pt9 M its2 k) ∧ Mine wr w1.heap.size 5 (some ⟨w1.heap.size, 0, none⟩) M (cells l) ∧ Lv Rep w wr (fun b => b = w1.heap.size) D x) (fun i _ => nl - (intOf i).toNat)
      case atStart => exact ⟨0, _, by omega, rfl, WA.out, MA.out, LA.out⟩
      case round =>
        clear WA MA LA
        obtain ⟨k, x, hk, rfl, hW, hM, hL⟩ := hrel
        have Wr := Lib.hid hW
        have Mr := Lib.hid hM
        have Lr := Lib.hid (hL.later DK (Below.drew (Below.refl _ _)))
        have Lq := Lib.hid hL
        have Mq := Lib.hid hM
        clear hW hM hL
        by_cases hlt : k < nl
        · have hki : (k : Int) < (nl : Int) := by omega
          obtain ⟨z, cc, hx⟩ : ∃ z cc, its2[k]? = some (z, cc) := ⟨_, _, List.getElem?_eq_getElem (by rw [← HL.out]; exact hlt)⟩
          have hbz := bz _ (List.mem_of_getElem? hx)
          simp only at hbz
          have Hx := Lib.hid hx
          obtain ⟨bb, oo, rfl, hc1, hc2⟩ := (HQ.out.below Lr.out.bel).cell k _ hx
          simp only at hc1 hc2
          have HC1 := Lib.hid hc1
          have HC2 := Lib.hid hc2
          have Hbl := Lib.hid (show bb < w.heap.size by
            obtain ⟨b', o', e', h1', _⟩ := HQ.out.cell k _ hx
            injection e' with e'
            injection e' with e1 e2
            subst e1
            exact World.block_lt_of_cell? w _ h1')
          clear hx hc1 hc2
          have Mr := Lib.hid (Mr.out.laterB (Below.drew (Below.refl _ _)))
          go_wp2_with fail
          refine wp_region_held_drew (S := fun w' => Fr (Own9 w (fun b => b = w1.heap.size)) wr.drew w') (by kernel_rfl) (Fr.refl _ _) (fun hHeld => ?_)
          clear hHeld
          refine wpAnyH_take (i := 0) (oi := ⟨some 87, _, _, _, _, _⟩) (v := ?va0) rfl (by kernel_rfl) (by kernel_rfl) (by kernel_rfl) (fun _ _ _ h => h) (Or.inl ⟨by rfl, ?ya0⟩) (Fr.refl _ _) ?ra0
          case ya0 =>
            intro wq hSw
            (try dsimp only at hSw)
            first | (go_simp; done) | (go_simp; with_reducible rfl)
          try simp only [Act.put, List.setIfInBounds_toArray, List.set_cons_zero, List.set_cons_succ]
          refine wpAnyH_take (i := 1) (oi := ⟨some 88, _, _, _, _, _⟩) (v := ?va1) rfl (by kernel_rfl) (by kernel_rfl) (by kernel_rfl) (fun _ _ _ h => h) (Or.inl ⟨by rfl, ?ya1⟩) (Fr.refl _ _) ?ra1
          case ya1 =>
            intro wq hSw
            (try dsimp only at hSw)
            first | (go_simp; done) | (go_simp; with_reducible rfl)
          try simp only [Act.put, List.setIfInBounds_toArray, List.set_cons_zero, List.set_cons_succ]
          refine wpAnyH_take (i := 2) (oi := ⟨some 89, _, _, _, _, _⟩) (v := ?va2) rfl (by kernel_rfl) (by kernel_rfl) (by kernel_rfl) (fun _ _ _ h => h) (Or.inl ⟨by rfl, ?ya2⟩) (Fr.refl _ _) ?ra2
          case ya2 =>
            intro wq hSw
            (try dsimp only at hSw)
            first | (go_simp; done) | (go_simp; with_reducible rfl)
          try simp only [Act.put, List.setIfInBounds_toArray, List.set_cons_zero, List.set_cons_succ]
          refine wpAnyH_take (i := 3) (oi := ⟨some 90, _, _, _, _, _⟩) (v := ?va3) rfl (by kernel_rfl) (by kernel_rfl) (by kernel_rfl) (fun _ _ _ h => h) (Or.inl ⟨by rfl, ?ya3⟩) (Fr.refl _ _) ?ra3
          case ya3 =>
            intro wq hSw
            (try dsimp only at hSw)
            first | (go_simp; done) | (go_simp; with_reducible rfl)
          try simp only [Act.put, List.setIfInBounds_toArray, List.set_cons_zero, List.set_cons_succ]
          refine wpAnyH_take (i := 4) (oi := ⟨some 91, _, _, _, _, _⟩) (v := ?va4) rfl (by kernel_rfl) (by kernel_rfl) (by kernel_rfl) (fun _ _ _ h => h) (Or.inl ⟨by rfl, ?ya4⟩) (Fr.refl _ _) ?ra4
          case ya4 =>
            intro wq hSw
            (try dsimp only at hSw)
            first | (go_simp; done) | (go_simp; with_reducible rfl)
          try simp only [Act.put, List.setIfInBounds_toArray, List.set_cons_zero, List.set_cons_succ]
          refine wpAnyH_take (i := 5) (oi := ⟨some 92, _, _, _, _, _⟩) (v := ?va5) rfl (by kernel_rfl) (by kernel_rfl) (by kernel_rfl) (fun _ _ _ h => h) (Or.inl ⟨by rfl, ?ya5⟩) (Fr.refl _ _) ?ra5
          case ya5 =>
            intro wq hSw
            (try dsimp only at hSw)
            have hq := hSw.cell_some HC1.out (fun h => absurd h.1 (Nat.not_le.mpr Hbl.out))
            first | (go_simp; done) | (go_simp; with_reducible rfl)
          try simp only [Act.put, List.setIfInBounds_toArray, List.set_cons_zero, List.set_cons_succ]
          refine wpAnyH_take (i := 6) (oi := ⟨some 93, _, _, _, _, _⟩) (v := ?va6) rfl (by kernel_rfl) (by kernel_rfl) (by kernel_rfl) (fun _ _ _ h => h) (Or.inl ⟨by rfl, ?ya6⟩) (Fr.refl _ _) ?ra6
          case ya6 =>
            intro wq hSw
            (try dsimp only at hSw)
            first | (go_simp; done) | (go_simp; with_reducible rfl)
          try simp only [Act.put, List.setIfInBounds_toArray, List.set_cons_zero, List.set_cons_succ]
          refine wpAnyH_take (i := 7) (oi := ⟨some 94, _, _, _, _, _⟩) (v := ?va7) rfl (by kernel_rfl) (by kernel_rfl) (by kernel_rfl) (fun _ _ _ h => h) (Or.inl ⟨by rfl, ?ya7⟩) (Fr.refl _ _) ?ra7
          case ya7 =>
            intro wq hSw
            (try dsimp only at hSw)
            have hwp := wrap_pred M (by omega)
            first | (go_simp; done) | (go_simp; with_reducible rfl)
          try simp only [Act.put, List.setIfInBounds_toArray, List.set_cons_zero, List.set_cons_succ]
          refine wpAnyH_take (i := 8) (oi := ⟨some 95, _, _, _, _, _⟩) (v := (.int .i64 (min z ((M : Int) - 1)))) rfl (by kernel_rfl) (by kernel_rfl) (by kernel_rfl) (fun _ _ _ h => h) (Or.inl ⟨by rfl, ?ya8⟩) (Fr.refl _ _) ?ra8
          case ya8 =>
            intro wq hSw
            exact step_min9 (x := .tmp 92) (y := .tmp 94) rfl rfl rfl
          try simp only [Act.put, List.setIfInBounds_toArray, List.set_cons_zero, List.set_cons_succ]
          refine wpAnyH_take (i := 9) (oi := ⟨some 96, _, _, _, _, _⟩) (v := (.int .i64 ((cl9 M z : Nat) : Int))) rfl (by kernel_rfl) (by kernel_rfl) (by kernel_rfl) (fun _ _ _ h => h) (Or.inl ⟨by rfl, ?ya9⟩) (Fr.refl _ _) ?ra9
          case ya9 =>
            intro wq hSw
            exact step_cl9 (y := .tmp 95) rfl rfl rfl
          try simp only [Act.put, List.setIfInBounds_toArray, List.set_cons_zero, List.set_cons_succ]
          refine wpAnyH_take (i := 10) (oi := ⟨some 97, _, _, _, _, _⟩) (v := ?va10) rfl (by kernel_rfl) (by kernel_rfl) (by kernel_rfl) (fun _ _ _ h => h) (Or.inl ⟨by rfl, ?ya10⟩) (Fr.refl _ _) ?ra10
          case ya10 =>
            intro wq hSw
            (try dsimp only at hSw)
            first | (go_simp; done) | (go_simp; with_reducible rfl)
          try simp only [Act.put, List.setIfInBounds_toArray, List.set_cons_zero, List.set_cons_succ]
          refine wpAnyH_take (i := 11) (oi := ⟨some 98, _, _, _, _, _⟩) (v := ?va11) rfl (by kernel_rfl) (by kernel_rfl) (by kernel_rfl) (fun _ _ _ h => h) (Or.inl ⟨by rfl, ?ya11⟩) (Fr.refl _ _) ?ra11
          case ya11 =>
            intro wq hSw
            (try dsimp only at hSw)
            first | (go_simp; done) | (go_simp; with_reducible rfl)
          try simp only [Act.put, List.setIfInBounds_toArray, List.set_cons_zero, List.set_cons_succ]
          refine wpAnyH_take (i := 12) (oi := ⟨some 99, _, _, _, _, _⟩) (v := ?va12) rfl (by kernel_rfl) (by kernel_rfl) (by kernel_rfl) (fun _ _ _ h => h) (Or.inl ⟨by rfl, ?ya12⟩) (Fr.refl _ _) ?ra12
          case ya12 =>
            intro wq hSw
            (try dsimp only at hSw)
            first | (go_simp; done) | (go_simp; with_reducible rfl)
          try simp only [Act.put, List.setIfInBounds_toArray, List.set_cons_zero, List.set_cons_succ]
          refine wpAnyH_take (i := 13) (oi := ⟨some 100, _, _, _, _, _⟩) (v := ?va13) rfl (by kernel_rfl) (by kernel_rfl) (by kernel_rfl) (fun _ _ _ h => h) (Or.inl ⟨by rfl, ?ya13⟩) (Fr.refl _ _) ?ra13
          case ya13 =>
            intro wq hSw
            (try dsimp only at hSw)
            first | (go_simp; done) | (go_simp; with_reducible rfl)
          try simp only [Act.put, List.setIfInBounds_toArray, List.set_cons_zero, List.set_cons_succ]
          refine wpAnyH_take (i := 14) (oi := ⟨some 101, _, _, _, _, _⟩) (v := ?va14) rfl (by kernel_rfl) (by kernel_rfl) (by kernel_rfl) (fun _ _ _ h => h) (Or.inl ⟨by rfl, ?ya14⟩) (Fr.refl _ _) ?ra14
          case ya14 =>
            intro wq hSw
            (try dsimp only at hSw)
            have hq := hSw.cell_some HC2.out (fun h => absurd h.1 (Nat.not_le.mpr Hbl.out))
            first | (go_simp; done) | (go_simp; with_reducible rfl)
          try simp only [Act.put, List.setIfInBounds_toArray, List.set_cons_zero, List.set_cons_succ]
          refine wpAnyH_ready (rs := [15]) (by kernel_rfl) (by simp) ?_
          refine AllReadyH.cons (o := ⟨some 102, _, _, _, _, _⟩) rfl (fun K hK => ?_) AllReadyH.nil
          go_simp
          refine (full_any cc _).mono ?_; rintro e w3 ⟨A3, n3, c3, rfl, hs, hb, -⟩
          have L3 := Lib.hid (Lr.out.later DK hb)
          have M3 := Lib.hid (Mr.out.laterB hb)
          have S3 := Lib.hid hs
          have hfr := Fr.of_below (S := Own9 w (fun b => b = w1.heap.size)) hb
          clear hs hb
          go_wp2_with fail
          refine hK.out _ _ hfr (fun hHeld => ?_)
          clear hK K hHeld
          try simp only [Act.put, List.setIfInBounds_toArray, List.set_cons_zero, List.set_cons_succ]
          refine wpAnyH_re (S' := fun w' => Fr (Own9 w (fun b => b = w1.heap.size)) w3 w') (fun w' h => hfr.trans h) ?_
          clear hfr
          refine wpAnyH_ready (rs := [16]) (by kernel_rfl) (by simp) ?_
          refine AllReadyH.cons (o := ⟨some 103, _, _, _, _, _⟩) rfl (fun K hK => ?_) AllReadyH.nil
          go_simp
          have hh := L3.out.write DK ((cl9 M z : Nat) : Int) A3 n3 c3 (full cc) (by omega) (by have := cl9_lt (N := M) (by omega) z; omega) (by rw [Wr.out.waits, pt9_len M its2 (by have := HL.out; omega)]; omega) S3.out
          refine hh.mono ?_; clear hh; rintro e w4 ⟨he, hL, hfr⟩
          rw [Wr.out.writeX (cl9_lt (by omega) z) cc] at he
          subst he
          have W4 := Lib.hid (Wr.out.write (cl9_lt (by omega) z) cc)
          have L4 := Lib.hid hL
          have M4 := Lib.hid (M3.out.frG hfr)
          clear hL
          go_wp2_with fail
          refine hK.out _ _ hfr (fun hHeld => ?_)
          clear hK K hHeld
          try simp only [Act.put, List.setIfInBounds_toArray, List.set_cons_zero, List.set_cons_succ]
          refine wpAnyH_re (S' := fun w' => Fr (Own9 w (fun b => b = w1.heap.size)) w4 w') (fun w' h => hfr.trans h) ?_
          clear hfr
          refine wpAnyH_take (i := 17) (oi := ⟨some 104, _, _, _, _, _⟩) (v := ?va17) rfl (by kernel_rfl) (by kernel_rfl) (by kernel_rfl) (fun _ _ _ h => h) (Or.inl ⟨by rfl, ?ya17⟩) (Fr.refl _ _) ?ra17
          case ya17 =>
            intro wq hSw
            (try dsimp only at hSw)
            first | (go_simp; done) | (go_simp; with_reducible rfl)
          try simp only [Act.put, List.setIfInBounds_toArray, List.set_cons_zero, List.set_cons_succ]
          refine wpAnyH_done (by kernel_rfl) ?_ _
          go_wp2_with fail
          go_roundw
          case rel => exact ⟨k + 1, _, by omega, by go_num, by rw [pt9_succ M Hx.out]; exact W4.out, M4.out, L4.out⟩
          case measure => simp [intOf]; omega
        · have hki : ¬ (k : Int) < (nl : Int) := by omega
          obtain rfl : nl = k := by omega
          have hwl : x.wait.length ≤ 100000 := by rw [Wr.out.waits, pt9_len M its2 (by have := HL.out; omega)]; omega
          have HWL := Lib.hid hwl
          clear hwl
          go_wp2_with fail
          refine (Lq.out.crash DK B nk cb ks HWL.out HK.out).mono ?_; rintro e w5 ⟨rfl, hL, hF⟩
          obtain ⟨l', hHo, hSaid⟩ := Wr.out.crash ks
          obtain ⟨y, hy⟩ : ∃ y, y = x.crash ks := ⟨_, rfl⟩
          rw [← hy] at hL hHo
          have HO := Lib.hid hHo
          have HS := Lib.hid hSaid
          have L5 := Lib.hid hL
          have M5 := Lib.hid (Mq.out.frG hF)
          have Hll := Lib.hid Wr.out.len
          clear hL hF hHo hSaid hy Lr Mr Lq Mq HWL Wr
          go_wp2_with fail
          go_loopw [14] (fun i wr => ∃ j : Nat, j ≤ M ∧ i = .int .i64 (j : Int) ∧ Mine wr w1.heap.size 5 (some ⟨w1.heap.size, 0, none⟩) M (cells l) ∧ Lv Rep w wr (fun b => b = w1.heap.size) D y) (fun i _ => M - (intOf i).toNat)
          case atStart => exact ⟨0, by omega, rfl, M5.out, L5.out⟩
          case round =>
            clear M5 L5
            obtain ⟨j, hj, rfl, hM, hL⟩ := hrel
            have Mr := Lib.hid hM
            have Lr := Lib.hid hL
            clear hM hL
            by_cases hjM : j < M
            · have hji : (j : Int) < (M : Int) := by omega
              go_wp2_with fail
              refine (Lr.out.read DK (j : Int) (by omega) (by omega) (by rw [HO.out.wait]; omega)).mono ?_; rintro e w6 ⟨A6, n6, c6, he, hN⟩
              rw [HO.out.readX hjM] at he
              rw [HO.out.readL hjM] at hN
              subst he
              obtain ⟨bb, hbb⟩ : ∃ bb, bb = l'.getD j 0 := ⟨_, rfl⟩
              rw [← hbb] at hN
              obtain ⟨hs, hb, -⟩ := hN
              have hn6 := hs.len
              rw [cells_length, full_length, Nat.mul_one] at hn6
              subst hn6
              obtain ⟨b6, o6, rfl, hc6⟩ := hs.at_ (k := 0) (by decide)
              have HCb := Lib.hid (show w6.drew.cell? ⟨b6, o6, none⟩ = some (.int .u8 (bb.toNat : Int)) from hc6 0 _ rfl)
              have SQ := Lib.hid (show Sl w6.drew 1 (some ⟨b6, o6, none⟩) 64 c6 (cells (full bb)) from hs.drew)
              have L6 := Lib.hid ((Lr.out.later DK hb).later DK (Below.drew (Below.refl _ _)))
              have M6 := Lib.hid ((Mr.out.laterB hb).laterB (Below.drew (Below.refl _ _)))
              have Hbb := Lib.hid hbb
              clear hs hb hc6 hbb Lr Mr
              go_wp2_with fail
              refine wp_region_held_drew (S := fun w' => Fr (fun _ => False) w6.drew w') (by kernel_rfl) (Fr.refl _ _) (fun hHeld => ?_)
              clear hHeld
              refine wpAnyH_take (i := 0) (oi := ⟨some 119, _, _, _, _, _⟩) (v := ?vp0) rfl (by kernel_rfl) (by kernel_rfl) (by kernel_rfl) (fun _ _ _ h => h) (Or.inl ⟨by rfl, ?yp0⟩) (Fr.refl _ _) ?rp0
              case yp0 =>
                intro wq hSw
                (try dsimp only at hSw)
                first | (go_simp; done) | (go_simp; with_reducible rfl)
              try simp only [Act.put, List.setIfInBounds_toArray, List.set_cons_zero, List.set_cons_succ]
              refine wpAnyH_take (i := 1) (oi := ⟨some 120, _, _, _, _, _⟩) (v := ?vp1) rfl (by kernel_rfl) (by kernel_rfl) (by kernel_rfl) (fun _ _ _ h => h) (Or.inl ⟨by rfl, ?yp1⟩) (Fr.refl _ _) ?rp1
              case yp1 =>
                intro wq hSw
                (try dsimp only at hSw)
                first | (go_simp; done) | (go_simp; with_reducible rfl)
              try simp only [Act.put, List.setIfInBounds_toArray, List.set_cons_zero, List.set_cons_succ]
              refine wpAnyH_take (i := 2) (oi := ⟨some 121, _, _, _, _, _⟩) (v := ?vp2) rfl (by kernel_rfl) (by kernel_rfl) (by kernel_rfl) (fun _ _ _ h => h) (Or.inl ⟨by rfl, ?yp2⟩) (Fr.refl _ _) ?rp2
              case yp2 =>
                intro wq hSw
                (try dsimp only at hSw)
                first | (go_simp; done) | (go_simp; with_reducible rfl)
              try simp only [Act.put, List.setIfInBounds_toArray, List.set_cons_zero, List.set_cons_succ]
              refine wpAnyH_take (i := 3) (oi := ⟨some 122, _, _, _, _, _⟩) (v := ?vp3) rfl (by kernel_rfl) (by kernel_rfl) (by kernel_rfl) (fun _ _ _ h => h) (Or.inl ⟨by rfl, ?yp3⟩) (Fr.refl _ _) ?rp3
              case yp3 =>
                intro wq hSw
                (try dsimp only at hSw)
                first | (go_simp; done) | (go_simp; with_reducible rfl)
              try simp only [Act.put, List.setIfInBounds_toArray, List.set_cons_zero, List.set_cons_succ]
              refine wpAnyH_take (i := 4) (oi := ⟨some 123, _, _, _, _, _⟩) (v := ?vp4) rfl (by kernel_rfl) (by kernel_rfl) (by kernel_rfl) (fun _ _ _ h => h) (Or.inl ⟨by rfl, ?yp4⟩) (Fr.refl _ _) ?rp4
              case yp4 =>
                intro wq hSw
                (try dsimp only at hSw)
                first | (go_simp; done) | (go_simp; with_reducible rfl)
              try simp only [Act.put, List.setIfInBounds_toArray, List.set_cons_zero, List.set_cons_succ]
              refine wpAnyH_take (i := 5) (oi := ⟨some 124, _, _, _, _, _⟩) (v := ?vp5) rfl (by kernel_rfl) (by kernel_rfl) (by kernel_rfl) (fun _ _ _ h => h) (Or.inl ⟨by rfl, ?yp5⟩) (Fr.refl _ _) ?rp5
              case yp5 =>
                intro wq hSw
                (try dsimp only at hSw)
                first | (go_simp; done) | (go_simp; with_reducible rfl)
              try simp only [Act.put, List.setIfInBounds_toArray, List.set_cons_zero, List.set_cons_succ]
              refine wpAnyH_take (i := 6) (oi := ⟨some 125, _, _, _, _, _⟩) (v := ?vp6) rfl (by kernel_rfl) (by kernel_rfl) (by kernel_rfl) (fun _ _ _ h => h) (Or.inl ⟨by rfl, ?yp6⟩) (Fr.refl _ _) ?rp6
              case yp6 =>
                intro wq hSw
                (try dsimp only at hSw)
                first | (go_simp; done) | (go_simp; with_reducible rfl)
              try simp only [Act.put, List.setIfInBounds_toArray, List.set_cons_zero, List.set_cons_succ]
              refine wpAnyH_take (i := 7) (oi := ⟨some 126, _, _, _, _, _⟩) (v := ?vp7) rfl (by kernel_rfl) (by kernel_rfl) (by kernel_rfl) (fun _ _ _ h => h) (Or.inl ⟨by rfl, ?yp7⟩) (Fr.refl _ _) ?rp7
              case yp7 =>
                intro wq hSw
                (try dsimp only at hSw)
                first | (go_simp; done) | (go_simp; with_reducible rfl)
              try simp only [Act.put, List.setIfInBounds_toArray, List.set_cons_zero, List.set_cons_succ]
              refine wpAnyH_take (i := 8) (oi := ⟨some 127, _, _, _, _, _⟩) (v := ?vp8) rfl (by kernel_rfl) (by kernel_rfl) (by kernel_rfl) (fun _ _ _ h => h) (Or.inl ⟨by rfl, ?yp8⟩) (Fr.refl _ _) ?rp8
              case yp8 =>
                intro wq hSw
                (try dsimp only at hSw)
                first | (go_simp; done) | (go_simp; with_reducible rfl)
              try simp only [Act.put, List.setIfInBounds_toArray, List.set_cons_zero, List.set_cons_succ]
              refine wpAnyH_take (i := 9) (oi := ⟨some 128, _, _, _, _, _⟩) (v := ?vp9) rfl (by kernel_rfl) (by kernel_rfl) (by kernel_rfl) (fun _ _ _ h => h) (Or.inl ⟨by rfl, ?yp9⟩) (Fr.refl _ _) ?rp9
              case yp9 =>
                intro wq hSw
                (try dsimp only at hSw)
                have k1 := str_of (SQ.out.fr hSw (fun _ _ _ _ h => h))
                first | (go_simp; done) | (go_simp; with_reducible rfl)
              try simp only [Act.put, List.setIfInBounds_toArray, List.set_cons_zero, List.set_cons_succ]
              refine wpAnyH_take (i := 10) (oi := ⟨some 129, _, _, _, _, _⟩) (v := ?vp10) rfl (by kernel_rfl) (by kernel_rfl) (by kernel_rfl) (fun _ _ _ h => h) (Or.inl ⟨by rfl, ?yp10⟩) (Fr.refl _ _) ?rp10
              case yp10 =>
                intro wq hSw
                (try dsimp only at hSw)
                first | (go_simp; done) | (go_simp; with_reducible rfl)
              try simp only [Act.put, List.setIfInBounds_toArray, List.set_cons_zero, List.set_cons_succ]
              refine wpAnyH_take (i := 11) (oi := ⟨some 130, _, _, _, _, _⟩) (v := ?vp11) rfl (by kernel_rfl) (by kernel_rfl) (by kernel_rfl) (fun _ _ _ h => h) (Or.inl ⟨by rfl, ?yp11⟩) (Fr.refl _ _) ?rp11
              case yp11 =>
                intro wq hSw
                (try dsimp only at hSw)
                first | (go_simp; done) | (go_simp; with_reducible rfl)
              try simp only [Act.put, List.setIfInBounds_toArray, List.set_cons_zero, List.set_cons_succ]
              refine wpAnyH_take (i := 12) (oi := ⟨some 131, _, _, _, _, _⟩) (v := ?vp12) rfl (by kernel_rfl) (by kernel_rfl) (by kernel_rfl) (fun _ _ _ h => h) (Or.inl ⟨by rfl, ?yp12⟩) (Fr.refl _ _) ?rp12
              case yp12 =>
                intro wq hSw
                (try dsimp only at hSw)
                have hq := hSw.cell_some HCb.out (fun h => h)
                first | (go_simp; done) | (go_simp; with_reducible rfl)
              try simp only [Act.put, List.setIfInBounds_toArray, List.set_cons_zero, List.set_cons_succ]
              refine wpAnyH_ready (rs := [13]) (by kernel_rfl) (by simp) ?_
              refine AllReadyH.cons (o := ⟨some 132, _, _, _, _, _⟩) rfl (fun K hK => ?_) AllReadyH.nil
              go_simp
              refine (full_any bb _).mono ?_; rintro e w7 ⟨A7, n7, c7, rfl, hs, hb, -⟩
              have L7 := Lib.hid (L6.out.later DK hb)
              have M7 := Lib.hid (M6.out.laterB hb)
              have S7 := Lib.hid hs
              have hfr := Fr.of_below (S := fun _ => False) hb
              have HCb7 := Lib.hid (hfr.cell_some HCb.out (fun h => h))
              clear hs hb
              go_wp2_with fail
              refine hK.out _ _ hfr (fun hHeld => ?_)
              clear hK K hHeld
              try simp only [Act.put, List.setIfInBounds_toArray, List.set_cons_zero, List.set_cons_succ]
              refine wpAnyH_re (S' := fun w' => Fr (fun _ => False) w7 w') (fun w' h => hfr.trans h) ?_
              clear hfr
              refine wpAnyH_take (i := 14) (oi := ⟨some 133, _, _, _, _, _⟩) (v := ?vp14) rfl (by kernel_rfl) (by kernel_rfl) (by kernel_rfl) (fun _ _ _ h => h) (Or.inl ⟨by rfl, ?yp14⟩) (Fr.refl _ _) ?rp14
              case yp14 =>
                intro wq hSw
                (try dsimp only at hSw)
                have k1 := str_of (S7.out.fr hSw (fun _ _ _ _ h => h))
                first | (go_simp; done) | (go_simp; with_reducible rfl)
              try simp only [Act.put, List.setIfInBounds_toArray, List.set_cons_zero, List.set_cons_succ]
              refine wpAnyH_take (i := 15) (oi := ⟨some 134, _, _, _, _, _⟩) (v := ?vp15) rfl (by kernel_rfl) (by kernel_rfl) (by kernel_rfl) (fun _ _ _ h => h) (Or.inl ⟨by rfl, ?yp15⟩) (Fr.refl _ _) ?rp15
              case yp15 =>
                intro wq hSw
                (try dsimp only at hSw)
                first | (go_simp; done) | (go_simp; with_reducible rfl)
              try simp only [Act.put, List.setIfInBounds_toArray, List.set_cons_zero, List.set_cons_succ]
              refine wpAnyH_take (i := 16) (oi := ⟨some 135, _, _, _, _, _⟩) (v := ?vp16) rfl (by kernel_rfl) (by kernel_rfl) (by kernel_rfl) (fun _ _ _ h => h) (Or.inl ⟨by rfl, ?yp16⟩) (Fr.refl _ _) ?rp16
              case yp16 =>
                intro wq hSw
                (try dsimp only at hSw)
                first | (go_simp; done) | (go_simp; with_reducible rfl)
              try simp only [Act.put, List.setIfInBounds_toArray, List.set_cons_zero, List.set_cons_succ]
              refine wpAnyH_done (by kernel_rfl) ?_ _
              go_wp2_with fail
              obtain ⟨u, hu⟩ : ∃ u, l[j]? = some u := ⟨_, List.getElem?_eq_getElem (by rw [Hll.out]; exact hjM)⟩
              have HU := Lib.hid (show l.getD j 0 = u by rw [List.getD_eq_getElem?_getD, hu]; rfl)
              obtain ⟨g', hg', _, hcu, _⟩ := (M7.out.laterB (Below.drew (Below.refl _ _))).at_ hjM hu
              injection hg' with hg'
              injection hg' with hg' _
              subst hg'
              have HCu := Lib.hid (show w7.drew.cell? ⟨w1.heap.size, j, none⟩ = some (.int .u8 (u.toNat : Int)) from hcu)
              clear hu hcu
              refine wp_region_held_drew (S := fun w' => Fr (fun _ => False) w7.drew w') (by kernel_rfl) (Fr.refl _ _) (fun hHeld => ?_)
              clear hHeld
              refine wpAnyH_take (i := 0) (oi := ⟨some 136, _, _, _, _, _⟩) (v := ?vq0) rfl (by kernel_rfl) (by kernel_rfl) (by kernel_rfl) (fun _ _ _ h => h) (Or.inl ⟨by rfl, ?yq0⟩) (Fr.refl _ _) ?rq0
              case yq0 =>
                intro wq hSw
                (try dsimp only at hSw)
                first | (go_simp; done) | (go_simp; with_reducible rfl)
              try simp only [Act.put, List.setIfInBounds_toArray, List.set_cons_zero, List.set_cons_succ]
              refine wpAnyH_take (i := 1) (oi := ⟨some 137, _, _, _, _, _⟩) (v := ?vq1) rfl (by kernel_rfl) (by kernel_rfl) (by kernel_rfl) (fun _ _ _ h => h) (Or.inl ⟨by rfl, ?yq1⟩) (Fr.refl _ _) ?rq1
              case yq1 =>
                intro wq hSw
                (try dsimp only at hSw)
                first | (go_simp; done) | (go_simp; with_reducible rfl)
              try simp only [Act.put, List.setIfInBounds_toArray, List.set_cons_zero, List.set_cons_succ]
              refine wpAnyH_take (i := 2) (oi := ⟨some 138, _, _, _, _, _⟩) (v := ?vq2) rfl (by kernel_rfl) (by kernel_rfl) (by kernel_rfl) (fun _ _ _ h => h) (Or.inl ⟨by rfl, ?yq2⟩) (Fr.refl _ _) ?rq2
              case yq2 =>
                intro wq hSw
                (try dsimp only at hSw)
                have hq := hSw.cell_some HCb7.out (fun h => h)
                first | (go_simp; done) | (go_simp; with_reducible rfl)
              try simp only [Act.put, List.setIfInBounds_toArray, List.set_cons_zero, List.set_cons_succ]
              refine wpAnyH_take (i := 3) (oi := ⟨some 139, _, _, _, _, _⟩) (v := ?vq3) rfl (by kernel_rfl) (by kernel_rfl) (by kernel_rfl) (fun _ _ _ h => h) (Or.inl ⟨by rfl, ?yq3⟩) (Fr.refl _ _) ?rq3
              case yq3 =>
                intro wq hSw
                (try dsimp only at hSw)
                first | (go_simp; done) | (go_simp; with_reducible rfl)
              try simp only [Act.put, List.setIfInBounds_toArray, List.set_cons_zero, List.set_cons_succ]
              refine wpAnyH_take (i := 4) (oi := ⟨some 140, _, _, _, _, _⟩) (v := ?vq4) rfl (by kernel_rfl) (by kernel_rfl) (by kernel_rfl) (fun _ _ _ h => h) (Or.inl ⟨by rfl, ?yq4⟩) (Fr.refl _ _) ?rq4
              case yq4 =>
                intro wq hSw
                (try dsimp only at hSw)
                first | (go_simp; done) | (go_simp; with_reducible rfl)
              try simp only [Act.put, List.setIfInBounds_toArray, List.set_cons_zero, List.set_cons_succ]
              refine wpAnyH_take (i := 5) (oi := ⟨some 141, _, _, _, _, _⟩) (v := ?vq5) rfl (by kernel_rfl) (by kernel_rfl) (by kernel_rfl) (fun _ _ _ h => h) (Or.inl ⟨by rfl, ?yq5⟩) (Fr.refl _ _) ?rq5
              case yq5 =>
                intro wq hSw
                (try dsimp only at hSw)
                first | (go_simp; done) | (go_simp; with_reducible rfl)
              try simp only [Act.put, List.setIfInBounds_toArray, List.set_cons_zero, List.set_cons_succ]
              refine wpAnyH_take (i := 6) (oi := ⟨some 142, _, _, _, _, _⟩) (v := ?vq6) rfl (by kernel_rfl) (by kernel_rfl) (by kernel_rfl) (fun _ _ _ h => h) (Or.inl ⟨by rfl, ?yq6⟩) (Fr.refl _ _) ?rq6
              case yq6 =>
                intro wq hSw
                (try dsimp only at hSw)
                have hq := hSw.cell_some HCu.out (fun h => h)
                first | (go_simp; done) | (go_simp; with_reducible rfl)
              try simp only [Act.put, List.setIfInBounds_toArray, List.set_cons_zero, List.set_cons_succ]
              refine wpAnyH_take (i := 7) (oi := ⟨some 143, _, _, _, _, _⟩) (v := (.bool (decide (bb = u)))) rfl (by kernel_rfl) (by kernel_rfl) (by kernel_rfl) (fun _ _ _ h => h) (Or.inl ⟨by rfl, ?yq7⟩) (Fr.refl _ _) ?rq7
              case yq7 =>
                intro wq hSw
                exact step_equ9 (x := .tmp 138) (y := .tmp 142) rfl rfl rfl
              try simp only [Act.put, List.setIfInBounds_toArray, List.set_cons_zero, List.set_cons_succ]
              refine wpAnyH_take (i := 8) (oi := ⟨some 17, _, _, _, _, _⟩) (v := ?vq8) rfl (by kernel_rfl) (by kernel_rfl) (by kernel_rfl) (fun _ _ _ h => h) (Or.inl ⟨by rfl, ?yq8⟩) (Fr.refl _ _) ?rq8
              case yq8 =>
                intro wq hSw
                (try dsimp only at hSw)
                first | (go_simp; done) | (go_simp; with_reducible rfl)
              try simp only [Act.put, List.setIfInBounds_toArray, List.set_cons_zero, List.set_cons_succ]
              refine wpAnyH_done (by kernel_rfl) ?_ _
              have L8 := Lib.hid (L7.out.later DK (Below.drew (Below.refl _ _)))
              have M8 := Lib.hid (M7.out.laterB (Below.drew (Below.refl _ _)))
              have HC8 := Lib.hid (show w7.drew.cell? ⟨b6, o6, none⟩ = some (.int .u8 (bb.toNat : Int)) from HCb7.out)
              obtain ⟨w8, hw8⟩ : ∃ v, v = w7.drew := ⟨_, rfl⟩
              rw [← hw8] at L8 M8 HC8 ⊢
              clear hw8 L7 M7 HCb7 HCu
              go_wp2_with fail
              go_loopw [17, 18] (fun v i wz => ∃ t : Nat, t ≤ nl ∧ i = .int .i64 (t : Int) ∧ v = .bool (said9 M its2 j u bb t) ∧ Below w8.heap.size w8 wz) (fun _ i _ => nl - (intOf i).toNat)
              case atStart => exact ⟨0, by omega, rfl, by rw [said9_zero], Below.refl _ _⟩
              case round =>
                obtain ⟨t, ht, rfl, rfl, hB⟩ := hrel
                have HB := Lib.hid hB
                clear hB
                by_cases htl : t < nl
                · have hti : (t : Int) < (nl : Int) := by omega
                  obtain ⟨z, cc, hx⟩ : ∃ z cc, its2[t]? = some (z, cc) := ⟨_, _, List.getElem?_eq_getElem (by rw [← HL.out]; exact htl)⟩
                  have Hsu := Lib.hid (said9_succ M j u bb hx)
                  obtain ⟨bz', oz, rfl, hc1, hc2⟩ := (HQ.out.below (((L8.out.later DK HB.out).later DK (Below.drew (Below.refl _ _))).bel)).cell t _ hx
                  simp only at hc1 hc2
                  have HC1 := Lib.hid hc1
                  have HC2 := Lib.hid hc2
                  have HCz := Lib.hid (show wr.drew.cell? ⟨b6, o6, none⟩ = some (.int .u8 (bb.toNat : Int)) from (Fr.of_below (S := fun _ => False) HB.out).cell_some HC8.out (fun h => h))
                  have HBz := Lib.hid (Below.drew HB.out)
                  clear hx hc1 hc2
                  cases hsd : said9 M its2 j u bb t
                  · have Hsd := Lib.hid hsd
                    clear hsd
                    by_cases hcl : cl9 M z = j
                    · have hci : ((cl9 M z : Nat) : Int) = (j : Int) := by omega
                      have Hci := Lib.hid hci
                      have Hcl := Lib.hid hcl
                      clear hci hcl
                      go_wp2_with fail
                      refine wp_region_held_drew (S := fun w' => Fr (fun _ => False) wr.drew w') (by kernel_rfl) (Fr.refl _ _) (fun hHeld => ?_)
                      clear hHeld
                      refine wpAnyH_take (i := 0) (oi := ⟨some 150, _, _, _, _, _⟩) (v := ?vy0) rfl (by kernel_rfl) (by kernel_rfl) (by kernel_rfl) (fun _ _ _ h => h) (Or.inl ⟨by rfl, ?yy0⟩) (Fr.refl _ _) ?ry0
                      case yy0 =>
                        intro wq hSw
                        (try dsimp only at hSw)
                        first | (go_simp; done) | (go_simp; with_reducible rfl)
                      try simp only [Act.put, List.setIfInBounds_toArray, List.set_cons_zero, List.set_cons_succ]
                      refine wpAnyH_take (i := 1) (oi := ⟨some 151, _, _, _, _, _⟩) (v := ?vy1) rfl (by kernel_rfl) (by kernel_rfl) (by kernel_rfl) (fun _ _ _ h => h) (Or.inl ⟨by rfl, ?yy1⟩) (Fr.refl _ _) ?ry1
                      case yy1 =>
                        intro wq hSw
                        (try dsimp only at hSw)
                        first | (go_simp; done) | (go_simp; with_reducible rfl)
                      try simp only [Act.put, List.setIfInBounds_toArray, List.set_cons_zero, List.set_cons_succ]
                      refine wpAnyH_take (i := 2) (oi := ⟨some 152, _, _, _, _, _⟩) (v := ?vy2) rfl (by kernel_rfl) (by kernel_rfl) (by kernel_rfl) (fun _ _ _ h => h) (Or.inl ⟨by rfl, ?yy2⟩) (Fr.refl _ _) ?ry2
                      case yy2 =>
                        intro wq hSw
                        (try dsimp only at hSw)
                        first | (go_simp; done) | (go_simp; with_reducible rfl)
                      try simp only [Act.put, List.setIfInBounds_toArray, List.set_cons_zero, List.set_cons_succ]
                      refine wpAnyH_take (i := 3) (oi := ⟨some 153, _, _, _, _, _⟩) (v := ?vy3) rfl (by kernel_rfl) (by kernel_rfl) (by kernel_rfl) (fun _ _ _ h => h) (Or.inl ⟨by rfl, ?yy3⟩) (Fr.refl _ _) ?ry3
                      case yy3 =>
                        intro wq hSw
                        (try dsimp only at hSw)
                        first | (go_simp; done) | (go_simp; with_reducible rfl)
                      try simp only [Act.put, List.setIfInBounds_toArray, List.set_cons_zero, List.set_cons_succ]
                      refine wpAnyH_take (i := 4) (oi := ⟨some 154, _, _, _, _, _⟩) (v := ?vy4) rfl (by kernel_rfl) (by kernel_rfl) (by kernel_rfl) (fun _ _ _ h => h) (Or.inl ⟨by rfl, ?yy4⟩) (Fr.refl _ _) ?ry4
                      case yy4 =>
                        intro wq hSw
                        (try dsimp only at hSw)
                        first | (go_simp; done) | (go_simp; with_reducible rfl)
                      try simp only [Act.put, List.setIfInBounds_toArray, List.set_cons_zero, List.set_cons_succ]
                      refine wpAnyH_take (i := 5) (oi := ⟨some 155, _, _, _, _, _⟩) (v := ?vy5) rfl (by kernel_rfl) (by kernel_rfl) (by kernel_rfl) (fun _ _ _ h => h) (Or.inl ⟨by rfl, ?yy5⟩) (Fr.refl _ _) ?ry5
                      case yy5 =>
                        intro wq hSw
                        (try dsimp only at hSw)
                        first | (go_simp; done) | (go_simp; with_reducible rfl)
                      try simp only [Act.put, List.setIfInBounds_toArray, List.set_cons_zero, List.set_cons_succ]
                      refine wpAnyH_take (i := 6) (oi := ⟨some 156, _, _, _, _, _⟩) (v := ?vy6) rfl (by kernel_rfl) (by kernel_rfl) (by kernel_rfl) (fun _ _ _ h => h) (Or.inl ⟨by rfl, ?yy6⟩) (Fr.refl _ _) ?ry6
                      case yy6 =>
                        intro wq hSw
                        (try dsimp only at hSw)
                        have hq := hSw.cell_some HC1.out (fun h => h)
                        first | (go_simp; done) | (go_simp; with_reducible rfl)
                      try simp only [Act.put, List.setIfInBounds_toArray, List.set_cons_zero, List.set_cons_succ]
                      refine wpAnyH_take (i := 7) (oi := ⟨some 157, _, _, _, _, _⟩) (v := ?vy7) rfl (by kernel_rfl) (by kernel_rfl) (by kernel_rfl) (fun _ _ _ h => h) (Or.inl ⟨by rfl, ?yy7⟩) (Fr.refl _ _) ?ry7
                      case yy7 =>
                        intro wq hSw
                        (try dsimp only at hSw)
                        first | (go_simp; done) | (go_simp; with_reducible rfl)
                      try simp only [Act.put, List.setIfInBounds_toArray, List.set_cons_zero, List.set_cons_succ]
                      refine wpAnyH_take (i := 8) (oi := ⟨some 158, _, _, _, _, _⟩) (v := ?vy8) rfl (by kernel_rfl) (by kernel_rfl) (by kernel_rfl) (fun _ _ _ h => h) (Or.inl ⟨by rfl, ?yy8⟩) (Fr.refl _ _) ?ry8
                      case yy8 =>
                        intro wq hSw
                        (try dsimp only at hSw)
                        have hwp := wrap_pred M (by omega)
                        first | (go_simp; done) | (go_simp; with_reducible rfl)
                      try simp only [Act.put, List.setIfInBounds_toArray, List.set_cons_zero, List.set_cons_succ]
                      refine wpAnyH_take (i := 9) (oi := ⟨some 159, _, _, _, _, _⟩) (v := (.int .i64 (min z ((M : Int) - 1)))) rfl (by kernel_rfl) (by kernel_rfl) (by kernel_rfl) (fun _ _ _ h => h) (Or.inl ⟨by rfl, ?yy9⟩) (Fr.refl _ _) ?ry9
                      case yy9 =>
                        intro wq hSw
                        exact step_min9 (x := .tmp 156) (y := .tmp 158) rfl rfl rfl
                      try simp only [Act.put, List.setIfInBounds_toArray, List.set_cons_zero, List.set_cons_succ]
                      refine wpAnyH_take (i := 10) (oi := ⟨some 160, _, _, _, _, _⟩) (v := (.int .i64 ((cl9 M z : Nat) : Int))) rfl (by kernel_rfl) (by kernel_rfl) (by kernel_rfl) (fun _ _ _ h => h) (Or.inl ⟨by rfl, ?yy10⟩) (Fr.refl _ _) ?ry10
                      case yy10 =>
                        intro wq hSw
                        exact step_cl9 (y := .tmp 159) rfl rfl rfl
                      try simp only [Act.put, List.setIfInBounds_toArray, List.set_cons_zero, List.set_cons_succ]
                      refine wpAnyH_take (i := 11) (oi := ⟨some 161, _, _, _, _, _⟩) (v := ?vy11) rfl (by kernel_rfl) (by kernel_rfl) (by kernel_rfl) (fun _ _ _ h => h) (Or.inl ⟨by rfl, ?yy11⟩) (Fr.refl _ _) ?ry11
                      case yy11 =>
                        intro wq hSw
                        (try dsimp only at hSw)
                        first | (go_simp; done) | (go_simp; with_reducible rfl)
                      try simp only [Act.put, List.setIfInBounds_toArray, List.set_cons_zero, List.set_cons_succ]
                      refine wpAnyH_take (i := 12) (oi := ⟨some 162, _, _, _, _, _⟩) (v := (.bool true)) rfl (by kernel_rfl) (by kernel_rfl) (by kernel_rfl) (fun _ _ _ h => h) (Or.inl ⟨by rfl, ?yy12⟩) (Fr.refl _ _) ?ry12
                      case yy12 =>
                        intro wq hSw
                        exact step_eqi9 (x := .tmp 160) (y := .tmp 161) rfl rfl rfl (decide_eq_true Hci.out)
                      try simp only [Act.put, List.setIfInBounds_toArray, List.set_cons_zero, List.set_cons_succ]
                      refine wpAnyH_take (i := 13) (oi := ⟨some 163, _, _, _, _, _⟩) (v := ?vy13) rfl (by kernel_rfl) (by kernel_rfl) (by kernel_rfl) (fun _ _ _ h => h) (Or.inl ⟨by rfl, ?yy13⟩) (Fr.refl _ _) ?ry13
                      case yy13 =>
                        intro wq hSw
                        (try dsimp only at hSw)
                        first | (go_simp; done) | (go_simp; with_reducible rfl)
                      try simp only [Act.put, List.setIfInBounds_toArray, List.set_cons_zero, List.set_cons_succ]
                      refine wpAnyH_take (i := 14) (oi := ⟨some 164, _, _, _, _, _⟩) (v := ?vy14) rfl (by kernel_rfl) (by kernel_rfl) (by kernel_rfl) (fun _ _ _ h => h) (Or.inl ⟨by rfl, ?yy14⟩) (Fr.refl _ _) ?ry14
                      case yy14 =>
                        intro wq hSw
                        (try dsimp only at hSw)
                        first | (go_simp; done) | (go_simp; with_reducible rfl)
                      try simp only [Act.put, List.setIfInBounds_toArray, List.set_cons_zero, List.set_cons_succ]
                      refine wpAnyH_take (i := 15) (oi := ⟨some 165, _, _, _, _, _⟩) (v := ?vy15) rfl (by kernel_rfl) (by kernel_rfl) (by kernel_rfl) (fun _ _ _ h => h) (Or.inl ⟨by rfl, ?yy15⟩) (Fr.refl _ _) ?ry15
                      case yy15 =>
                        intro wq hSw
                        (try dsimp only at hSw)
                        first | (go_simp; done) | (go_simp; with_reducible rfl)
                      try simp only [Act.put, List.setIfInBounds_toArray, List.set_cons_zero, List.set_cons_succ]
                      refine wpAnyH_take (i := 16) (oi := ⟨some 166, _, _, _, _, _⟩) (v := ?vy16) rfl (by kernel_rfl) (by kernel_rfl) (by kernel_rfl) (fun _ _ _ h => h) (Or.inl ⟨by rfl, ?yy16⟩) (Fr.refl _ _) ?ry16
                      case yy16 =>
                        intro wq hSw
                        (try dsimp only at hSw)
                        first | (go_simp; done) | (go_simp; with_reducible rfl)
                      try simp only [Act.put, List.setIfInBounds_toArray, List.set_cons_zero, List.set_cons_succ]
                      refine wpAnyH_take (i := 17) (oi := ⟨some 167, _, _, _, _, _⟩) (v := ?vy17) rfl (by kernel_rfl) (by kernel_rfl) (by kernel_rfl) (fun _ _ _ h => h) (Or.inl ⟨by rfl, ?yy17⟩) (Fr.refl _ _) ?ry17
                      case yy17 =>
                        intro wq hSw
                        (try dsimp only at hSw)
                        first | (go_simp; done) | (go_simp; with_reducible rfl)
                      try simp only [Act.put, List.setIfInBounds_toArray, List.set_cons_zero, List.set_cons_succ]
                      refine wpAnyH_take (i := 18) (oi := ⟨some 168, _, _, _, _, _⟩) (v := ?vy18) rfl (by kernel_rfl) (by kernel_rfl) (by kernel_rfl) (fun _ _ _ h => h) (Or.inl ⟨by rfl, ?yy18⟩) (Fr.refl _ _) ?ry18
                      case yy18 =>
                        intro wq hSw
                        (try dsimp only at hSw)
                        have hq := hSw.cell_some HC2.out (fun h => h)
                        first | (go_simp; done) | (go_simp; with_reducible rfl)
                      try simp only [Act.put, List.setIfInBounds_toArray, List.set_cons_zero, List.set_cons_succ]
                      refine wpAnyH_take (i := 19) (oi := ⟨some 169, _, _, _, _, _⟩) (v := ?vy19) rfl (by kernel_rfl) (by kernel_rfl) (by kernel_rfl) (fun _ _ _ h => h) (Or.inl ⟨by rfl, ?yy19⟩) (Fr.refl _ _) ?ry19
                      case yy19 =>
                        intro wq hSw
                        (try dsimp only at hSw)
                        first | (go_simp; done) | (go_simp; with_reducible rfl)
                      try simp only [Act.put, List.setIfInBounds_toArray, List.set_cons_zero, List.set_cons_succ]
                      refine wpAnyH_take (i := 20) (oi := ⟨some 170, _, _, _, _, _⟩) (v := ?vy20) rfl (by kernel_rfl) (by kernel_rfl) (by kernel_rfl) (fun _ _ _ h => h) (Or.inl ⟨by rfl, ?yy20⟩) (Fr.refl _ _) ?ry20
                      case yy20 =>
                        intro wq hSw
                        (try dsimp only at hSw)
                        first | (go_simp; done) | (go_simp; with_reducible rfl)
                      try simp only [Act.put, List.setIfInBounds_toArray, List.set_cons_zero, List.set_cons_succ]
                      refine wpAnyH_take (i := 21) (oi := ⟨some 171, _, _, _, _, _⟩) (v := ?vy21) rfl (by kernel_rfl) (by kernel_rfl) (by kernel_rfl) (fun _ _ _ h => h) (Or.inl ⟨by rfl, ?yy21⟩) (Fr.refl _ _) ?ry21
                      case yy21 =>
                        intro wq hSw
                        (try dsimp only at hSw)
                        have hq := hSw.cell_some HCz.out (fun h => h)
                        first | (go_simp; done) | (go_simp; with_reducible rfl)
                      try simp only [Act.put, List.setIfInBounds_toArray, List.set_cons_zero, List.set_cons_succ]
                      refine wpAnyH_take (i := 22) (oi := ⟨some 172, _, _, _, _, _⟩) (v := (.bool (decide (cc = bb)))) rfl (by kernel_rfl) (by kernel_rfl) (by kernel_rfl) (fun _ _ _ h => h) (Or.inl ⟨by rfl, ?yy22⟩) (Fr.refl _ _) ?ry22
                      case yy22 =>
                        intro wq hSw
                        exact step_equ9 (x := .tmp 168) (y := .tmp 171) rfl rfl rfl
                      try simp only [Act.put, List.setIfInBounds_toArray, List.set_cons_zero, List.set_cons_succ]
                      refine wpAnyH_take (i := 23) (oi := ⟨some 173, _, _, _, _, _⟩) (v := ?vy23) rfl (by kernel_rfl) (by kernel_rfl) (by kernel_rfl) (fun _ _ _ h => h) (Or.inl ⟨by rfl, ?yy23⟩) (Fr.refl _ _) ?ry23
                      case yy23 =>
                        intro wq hSw
                        (try dsimp only at hSw)
                        first | (go_simp; done) | (go_simp; with_reducible rfl)
                      try simp only [Act.put, List.setIfInBounds_toArray, List.set_cons_zero, List.set_cons_succ]
                      refine wpAnyH_take (i := 24) (oi := ⟨some 174, _, _, _, _, _⟩) (v := ?vy24) rfl (by kernel_rfl) (by kernel_rfl) (by kernel_rfl) (fun _ _ _ h => h) (Or.inl ⟨by rfl, ?yy24⟩) (Fr.refl _ _) ?ry24
                      case yy24 =>
                        intro wq hSw
                        (try dsimp only at hSw)
                        first | (go_simp; done) | (go_simp; with_reducible rfl)
                      try simp only [Act.put, List.setIfInBounds_toArray, List.set_cons_zero, List.set_cons_succ]
                      refine wpAnyH_take (i := 25) (oi := ⟨some 17, _, _, _, _, _⟩) (v := ?vy25) rfl (by kernel_rfl) (by kernel_rfl) (by kernel_rfl) (fun _ _ _ h => h) (Or.inl ⟨by rfl, ?yy25⟩) (Fr.refl _ _) ?ry25
                      case yy25 =>
                        intro wq hSw
                        (try dsimp only at hSw)
                        first | (go_simp; done) | (go_simp; with_reducible rfl)
                      try simp only [Act.put, List.setIfInBounds_toArray, List.set_cons_zero, List.set_cons_succ]
                      refine wpAnyH_done (by kernel_rfl) ?_ _
                      go_wp2_with fail
                      go_roundw
                      case rel => exact ⟨t + 1, by omega, by go_num, by rw [Hsu.out, Hsd.out, decide_eq_true Hcl.out]; simp, HBz.out⟩
                      case measure => simp [intOf]; omega
                    · have hci : ¬ ((cl9 M z : Nat) : Int) = (j : Int) := by omega
                      have Hci := Lib.hid hci
                      have Hcl := Lib.hid hcl
                      clear hci hcl
                      go_wp2_with fail
                      refine wp_region_held_drew (S := fun w' => Fr (fun _ => False) wr.drew w') (by kernel_rfl) (Fr.refl _ _) (fun hHeld => ?_)
                      clear hHeld
                      refine wpAnyH_take (i := 0) (oi := ⟨some 150, _, _, _, _, _⟩) (v := ?vn0) rfl (by kernel_rfl) (by kernel_rfl) (by kernel_rfl) (fun _ _ _ h => h) (Or.inl ⟨by rfl, ?yn0⟩) (Fr.refl _ _) ?rn0
                      case yn0 =>
                        intro wq hSw
                        (try dsimp only at hSw)
                        first | (go_simp; done) | (go_simp; with_reducible rfl)
                      try simp only [Act.put, List.setIfInBounds_toArray, List.set_cons_zero, List.set_cons_succ]
                      refine wpAnyH_take (i := 1) (oi := ⟨some 151, _, _, _, _, _⟩) (v := ?vn1) rfl (by kernel_rfl) (by kernel_rfl) (by kernel_rfl) (fun _ _ _ h => h) (Or.inl ⟨by rfl, ?yn1⟩) (Fr.refl _ _) ?rn1
                      case yn1 =>
                        intro wq hSw
                        (try dsimp only at hSw)
                        first | (go_simp; done) | (go_simp; with_reducible rfl)
                      try simp only [Act.put, List.setIfInBounds_toArray, List.set_cons_zero, List.set_cons_succ]
                      refine wpAnyH_take (i := 2) (oi := ⟨some 152, _, _, _, _, _⟩) (v := ?vn2) rfl (by kernel_rfl) (by kernel_rfl) (by kernel_rfl) (fun _ _ _ h => h) (Or.inl ⟨by rfl, ?yn2⟩) (Fr.refl _ _) ?rn2
                      case yn2 =>
                        intro wq hSw
                        (try dsimp only at hSw)
                        first | (go_simp; done) | (go_simp; with_reducible rfl)
                      try simp only [Act.put, List.setIfInBounds_toArray, List.set_cons_zero, List.set_cons_succ]
                      refine wpAnyH_take (i := 3) (oi := ⟨some 153, _, _, _, _, _⟩) (v := ?vn3) rfl (by kernel_rfl) (by kernel_rfl) (by kernel_rfl) (fun _ _ _ h => h) (Or.inl ⟨by rfl, ?yn3⟩) (Fr.refl _ _) ?rn3
                      case yn3 =>
                        intro wq hSw
                        (try dsimp only at hSw)
                        first | (go_simp; done) | (go_simp; with_reducible rfl)
                      try simp only [Act.put, List.setIfInBounds_toArray, List.set_cons_zero, List.set_cons_succ]
                      refine wpAnyH_take (i := 4) (oi := ⟨some 154, _, _, _, _, _⟩) (v := ?vn4) rfl (by kernel_rfl) (by kernel_rfl) (by kernel_rfl) (fun _ _ _ h => h) (Or.inl ⟨by rfl, ?yn4⟩) (Fr.refl _ _) ?rn4
                      case yn4 =>
                        intro wq hSw
                        (try dsimp only at hSw)
                        first | (go_simp; done) | (go_simp; with_reducible rfl)
                      try simp only [Act.put, List.setIfInBounds_toArray, List.set_cons_zero, List.set_cons_succ]
                      refine wpAnyH_take (i := 5) (oi := ⟨some 155, _, _, _, _, _⟩) (v := ?vn5) rfl (by kernel_rfl) (by kernel_rfl) (by kernel_rfl) (fun _ _ _ h => h) (Or.inl ⟨by rfl, ?yn5⟩) (Fr.refl _ _) ?rn5
                      case yn5 =>
                        intro wq hSw
                        (try dsimp only at hSw)
                        first | (go_simp; done) | (go_simp; with_reducible rfl)
                      try simp only [Act.put, List.setIfInBounds_toArray, List.set_cons_zero, List.set_cons_succ]
                      refine wpAnyH_take (i := 6) (oi := ⟨some 156, _, _, _, _, _⟩) (v := ?vn6) rfl (by kernel_rfl) (by kernel_rfl) (by kernel_rfl) (fun _ _ _ h => h) (Or.inl ⟨by rfl, ?yn6⟩) (Fr.refl _ _) ?rn6
                      case yn6 =>
                        intro wq hSw
                        (try dsimp only at hSw)
                        have hq := hSw.cell_some HC1.out (fun h => h)
                        first | (go_simp; done) | (go_simp; with_reducible rfl)
                      try simp only [Act.put, List.setIfInBounds_toArray, List.set_cons_zero, List.set_cons_succ]
                      refine wpAnyH_take (i := 7) (oi := ⟨some 157, _, _, _, _, _⟩) (v := ?vn7) rfl (by kernel_rfl) (by kernel_rfl) (by kernel_rfl) (fun _ _ _ h => h) (Or.inl ⟨by rfl, ?yn7⟩) (Fr.refl _ _) ?rn7
                      case yn7 =>
                        intro wq hSw
                        (try dsimp only at hSw)
                        first | (go_simp; done) | (go_simp; with_reducible rfl)
                      try simp only [Act.put, List.setIfInBounds_toArray, List.set_cons_zero, List.set_cons_succ]
                      refine wpAnyH_take (i := 8) (oi := ⟨some 158, _, _, _, _, _⟩) (v := ?vn8) rfl (by kernel_rfl) (by kernel_rfl) (by kernel_rfl) (fun _ _ _ h => h) (Or.inl ⟨by rfl, ?yn8⟩) (Fr.refl _ _) ?rn8
                      case yn8 =>
                        intro wq hSw
                        (try dsimp only at hSw)
                        have hwp := wrap_pred M (by omega)
                        first | (go_simp; done) | (go_simp; with_reducible rfl)
                      try simp only [Act.put, List.setIfInBounds_toArray, List.set_cons_zero, List.set_cons_succ]
                      refine wpAnyH_take (i := 9) (oi := ⟨some 159, _, _, _, _, _⟩) (v := (.int .i64 (min z ((M : Int) - 1)))) rfl (by kernel_rfl) (by kernel_rfl) (by kernel_rfl) (fun _ _ _ h => h) (Or.inl ⟨by rfl, ?yn9⟩) (Fr.refl _ _) ?rn9
                      case yn9 =>
                        intro wq hSw
                        exact step_min9 (x := .tmp 156) (y := .tmp 158) rfl rfl rfl
                      try simp only [Act.put, List.setIfInBounds_toArray, List.set_cons_zero, List.set_cons_succ]
                      refine wpAnyH_take (i := 10) (oi := ⟨some 160, _, _, _, _, _⟩) (v := (.int .i64 ((cl9 M z : Nat) : Int))) rfl (by kernel_rfl) (by kernel_rfl) (by kernel_rfl) (fun _ _ _ h => h) (Or.inl ⟨by rfl, ?yn10⟩) (Fr.refl _ _) ?rn10
                      case yn10 =>
                        intro wq hSw
                        exact step_cl9 (y := .tmp 159) rfl rfl rfl
                      try simp only [Act.put, List.setIfInBounds_toArray, List.set_cons_zero, List.set_cons_succ]
                      refine wpAnyH_take (i := 11) (oi := ⟨some 161, _, _, _, _, _⟩) (v := ?vn11) rfl (by kernel_rfl) (by kernel_rfl) (by kernel_rfl) (fun _ _ _ h => h) (Or.inl ⟨by rfl, ?yn11⟩) (Fr.refl _ _) ?rn11
                      case yn11 =>
                        intro wq hSw
                        (try dsimp only at hSw)
                        first | (go_simp; done) | (go_simp; with_reducible rfl)
                      try simp only [Act.put, List.setIfInBounds_toArray, List.set_cons_zero, List.set_cons_succ]
                      refine wpAnyH_take (i := 12) (oi := ⟨some 162, _, _, _, _, _⟩) (v := (.bool false)) rfl (by kernel_rfl) (by kernel_rfl) (by kernel_rfl) (fun _ _ _ h => h) (Or.inl ⟨by rfl, ?yn12⟩) (Fr.refl _ _) ?rn12
                      case yn12 =>
                        intro wq hSw
                        exact step_eqi9 (x := .tmp 160) (y := .tmp 161) rfl rfl rfl (decide_eq_false Hci.out)
                      try simp only [Act.put, List.setIfInBounds_toArray, List.set_cons_zero, List.set_cons_succ]
                      refine wpAnyH_take (i := 13) (oi := ⟨some 163, _, _, _, _, _⟩) (v := ?vn13) rfl (by kernel_rfl) (by kernel_rfl) (by kernel_rfl) (fun _ _ _ h => h) (Or.inl ⟨by rfl, ?yn13⟩) (Fr.refl _ _) ?rn13
                      case yn13 =>
                        intro wq hSw
                        (try dsimp only at hSw)
                        first | (go_simp; done) | (go_simp; with_reducible rfl)
                      try simp only [Act.put, List.setIfInBounds_toArray, List.set_cons_zero, List.set_cons_succ]
                      refine wpAnyH_take (i := 14) (oi := ⟨some 164, _, _, _, _, _⟩) (v := undef) rfl (by kernel_rfl) (by kernel_rfl) (by kernel_rfl) (fun _ _ _ h => h) (Or.inr ⟨by rfl, rfl⟩) (Fr.refl _ _) ?rn14
                      try simp only [Act.put, List.setIfInBounds_toArray, List.set_cons_zero, List.set_cons_succ]
                      refine wpAnyH_take (i := 15) (oi := ⟨some 165, _, _, _, _, _⟩) (v := undef) rfl (by kernel_rfl) (by kernel_rfl) (by kernel_rfl) (fun _ _ _ h => h) (Or.inr ⟨by rfl, rfl⟩) (Fr.refl _ _) ?rn15
                      try simp only [Act.put, List.setIfInBounds_toArray, List.set_cons_zero, List.set_cons_succ]
                      refine wpAnyH_take (i := 16) (oi := ⟨some 166, _, _, _, _, _⟩) (v := undef) rfl (by kernel_rfl) (by kernel_rfl) (by kernel_rfl) (fun _ _ _ h => h) (Or.inr ⟨by rfl, rfl⟩) (Fr.refl _ _) ?rn16
                      try simp only [Act.put, List.setIfInBounds_toArray, List.set_cons_zero, List.set_cons_succ]
                      refine wpAnyH_take (i := 17) (oi := ⟨some 167, _, _, _, _, _⟩) (v := undef) rfl (by kernel_rfl) (by kernel_rfl) (by kernel_rfl) (fun _ _ _ h => h) (Or.inr ⟨by rfl, rfl⟩) (Fr.refl _ _) ?rn17
                      try simp only [Act.put, List.setIfInBounds_toArray, List.set_cons_zero, List.set_cons_succ]
                      refine wpAnyH_take (i := 18) (oi := ⟨some 168, _, _, _, _, _⟩) (v := undef) rfl (by kernel_rfl) (by kernel_rfl) (by kernel_rfl) (fun _ _ _ h => h) (Or.inr ⟨by rfl, rfl⟩) (Fr.refl _ _) ?rn18
                      try simp only [Act.put, List.setIfInBounds_toArray, List.set_cons_zero, List.set_cons_succ]
                      refine wpAnyH_take (i := 19) (oi := ⟨some 169, _, _, _, _, _⟩) (v := undef) rfl (by kernel_rfl) (by kernel_rfl) (by kernel_rfl) (fun _ _ _ h => h) (Or.inr ⟨by rfl, rfl⟩) (Fr.refl _ _) ?rn19
                      try simp only [Act.put, List.setIfInBounds_toArray, List.set_cons_zero, List.set_cons_succ]
                      refine wpAnyH_take (i := 20) (oi := ⟨some 170, _, _, _, _, _⟩) (v := undef) rfl (by kernel_rfl) (by kernel_rfl) (by kernel_rfl) (fun _ _ _ h => h) (Or.inr ⟨by rfl, rfl⟩) (Fr.refl _ _) ?rn20
                      try simp only [Act.put, List.setIfInBounds_toArray, List.set_cons_zero, List.set_cons_succ]
                      refine wpAnyH_take (i := 21) (oi := ⟨some 171, _, _, _, _, _⟩) (v := undef) rfl (by kernel_rfl) (by kernel_rfl) (by kernel_rfl) (fun _ _ _ h => h) (Or.inr ⟨by rfl, rfl⟩) (Fr.refl _ _) ?rn21
                      try simp only [Act.put, List.setIfInBounds_toArray, List.set_cons_zero, List.set_cons_succ]
                      refine wpAnyH_take (i := 22) (oi := ⟨some 172, _, _, _, _, _⟩) (v := undef) rfl (by kernel_rfl) (by kernel_rfl) (by kernel_rfl) (fun _ _ _ h => h) (Or.inr ⟨by rfl, rfl⟩) (Fr.refl _ _) ?rn22
                      try simp only [Act.put, List.setIfInBounds_toArray, List.set_cons_zero, List.set_cons_succ]
                      refine wpAnyH_take (i := 23) (oi := ⟨some 173, _, _, _, _, _⟩) (v := ?vn23) rfl (by kernel_rfl) (by kernel_rfl) (by kernel_rfl) (fun _ _ _ h => h) (Or.inl ⟨by rfl, ?yn23⟩) (Fr.refl _ _) ?rn23
                      case yn23 =>
                        intro wq hSw
                        (try dsimp only at hSw)
                        first | (go_simp; done) | (go_simp; with_reducible rfl)
                      try simp only [Act.put, List.setIfInBounds_toArray, List.set_cons_zero, List.set_cons_succ]
                      refine wpAnyH_take (i := 24) (oi := ⟨some 174, _, _, _, _, _⟩) (v := ?vn24) rfl (by kernel_rfl) (by kernel_rfl) (by kernel_rfl) (fun _ _ _ h => h) (Or.inl ⟨by rfl, ?yn24⟩) (Fr.refl _ _) ?rn24
                      case yn24 =>
                        intro wq hSw
                        (try dsimp only at hSw)
                        first | (go_simp; done) | (go_simp; with_reducible rfl)
                      try simp only [Act.put, List.setIfInBounds_toArray, List.set_cons_zero, List.set_cons_succ]
                      refine wpAnyH_take (i := 25) (oi := ⟨some 17, _, _, _, _, _⟩) (v := ?vn25) rfl (by kernel_rfl) (by kernel_rfl) (by kernel_rfl) (fun _ _ _ h => h) (Or.inl ⟨by rfl, ?yn25⟩) (Fr.refl _ _) ?rn25
                      case yn25 =>
                        intro wq hSw
                        (try dsimp only at hSw)
                        first | (go_simp; done) | (go_simp; with_reducible rfl)
                      try simp only [Act.put, List.setIfInBounds_toArray, List.set_cons_zero, List.set_cons_succ]
                      refine wpAnyH_done (by kernel_rfl) ?_ _
                      go_wp2_with fail
                      go_roundw
                      case rel => exact ⟨t + 1, by omega, by go_num, by rw [Hsu.out, Hsd.out, decide_eq_false Hcl.out]; rfl, HBz.out⟩
                      case measure => simp [intOf]; omega
                  · have Hsd := Lib.hid hsd
                    clear hsd
                    go_wp2_with fail
                    refine wp_region_held_drew (S := fun w' => Fr (fun _ => False) wr.drew w') (by kernel_rfl) (Fr.refl _ _) (fun hHeld => ?_)
                    clear hHeld
                    refine wpAnyH_take (i := 0) (oi := ⟨some 150, _, _, _, _, _⟩) (v := ?vt0) rfl (by kernel_rfl) (by kernel_rfl) (by kernel_rfl) (fun _ _ _ h => h) (Or.inl ⟨by rfl, ?yt0⟩) (Fr.refl _ _) ?rt0
                    case yt0 =>
                      intro wq hSw
                      (try dsimp only at hSw)
                      first | (go_simp; done) | (go_simp; with_reducible rfl)
                    try simp only [Act.put, List.setIfInBounds_toArray, List.set_cons_zero, List.set_cons_succ]
                    refine wpAnyH_take (i := 1) (oi := ⟨some 151, _, _, _, _, _⟩) (v := ?vt1) rfl (by kernel_rfl) (by kernel_rfl) (by kernel_rfl) (fun _ _ _ h => h) (Or.inl ⟨by rfl, ?yt1⟩) (Fr.refl _ _) ?rt1
                    case yt1 =>
                      intro wq hSw
                      (try dsimp only at hSw)
                      first | (go_simp; done) | (go_simp; with_reducible rfl)
                    try simp only [Act.put, List.setIfInBounds_toArray, List.set_cons_zero, List.set_cons_succ]
                    refine wpAnyH_take (i := 2) (oi := ⟨some 152, _, _, _, _, _⟩) (v := undef) rfl (by kernel_rfl) (by kernel_rfl) (by kernel_rfl) (fun _ _ _ h => h) (Or.inr ⟨by rfl, rfl⟩) (Fr.refl _ _) ?rt2
                    try simp only [Act.put, List.setIfInBounds_toArray, List.set_cons_zero, List.set_cons_succ]
                    refine wpAnyH_take (i := 3) (oi := ⟨some 153, _, _, _, _, _⟩) (v := undef) rfl (by kernel_rfl) (by kernel_rfl) (by kernel_rfl) (fun _ _ _ h => h) (Or.inr ⟨by rfl, rfl⟩) (Fr.refl _ _) ?rt3
                    try simp only [Act.put, List.setIfInBounds_toArray, List.set_cons_zero, List.set_cons_succ]
                    refine wpAnyH_take (i := 4) (oi := ⟨some 154, _, _, _, _, _⟩) (v := undef) rfl (by kernel_rfl) (by kernel_rfl) (by kernel_rfl) (fun _ _ _ h => h) (Or.inr ⟨by rfl, rfl⟩) (Fr.refl _ _) ?rt4
                    try simp only [Act.put, List.setIfInBounds_toArray, List.set_cons_zero, List.set_cons_succ]
                    refine wpAnyH_take (i := 5) (oi := ⟨some 155, _, _, _, _, _⟩) (v := undef) rfl (by kernel_rfl) (by kernel_rfl) (by kernel_rfl) (fun _ _ _ h => h) (Or.inr ⟨by rfl, rfl⟩) (Fr.refl _ _) ?rt5
                    try simp only [Act.put, List.setIfInBounds_toArray, List.set_cons_zero, List.set_cons_succ]
                    refine wpAnyH_take (i := 6) (oi := ⟨some 156, _, _, _, _, _⟩) (v := undef) rfl (by kernel_rfl) (by kernel_rfl) (by kernel_rfl) (fun _ _ _ h => h) (Or.inr ⟨by rfl, rfl⟩) (Fr.refl _ _) ?rt6
                    try simp only [Act.put, List.setIfInBounds_toArray, List.set_cons_zero, List.set_cons_succ]
                    refine wpAnyH_take (i := 7) (oi := ⟨some 157, _, _, _, _, _⟩) (v := undef) rfl (by kernel_rfl) (by kernel_rfl) (by kernel_rfl) (fun _ _ _ h => h) (Or.inr ⟨by rfl, rfl⟩) (Fr.refl _ _) ?rt7
                    try simp only [Act.put, List.setIfInBounds_toArray, List.set_cons_zero, List.set_cons_succ]
                    refine wpAnyH_take (i := 8) (oi := ⟨some 158, _, _, _, _, _⟩) (v := undef) rfl (by kernel_rfl) (by kernel_rfl) (by kernel_rfl) (fun _ _ _ h => h) (Or.inr ⟨by rfl, rfl⟩) (Fr.refl _ _) ?rt8
                    try simp only [Act.put, List.setIfInBounds_toArray, List.set_cons_zero, List.set_cons_succ]
                    refine wpAnyH_take (i := 9) (oi := ⟨some 159, _, _, _, _, _⟩) (v := undef) rfl (by kernel_rfl) (by kernel_rfl) (by kernel_rfl) (fun _ _ _ h => h) (Or.inr ⟨by rfl, rfl⟩) (Fr.refl _ _) ?rt9
                    try simp only [Act.put, List.setIfInBounds_toArray, List.set_cons_zero, List.set_cons_succ]
                    refine wpAnyH_take (i := 10) (oi := ⟨some 160, _, _, _, _, _⟩) (v := undef) rfl (by kernel_rfl) (by kernel_rfl) (by kernel_rfl) (fun _ _ _ h => h) (Or.inr ⟨by rfl, rfl⟩) (Fr.refl _ _) ?rt10
                    try simp only [Act.put, List.setIfInBounds_toArray, List.set_cons_zero, List.set_cons_succ]
                    refine wpAnyH_take (i := 11) (oi := ⟨some 161, _, _, _, _, _⟩) (v := undef) rfl (by kernel_rfl) (by kernel_rfl) (by kernel_rfl) (fun _ _ _ h => h) (Or.inr ⟨by rfl, rfl⟩) (Fr.refl _ _) ?rt11
                    try simp only [Act.put, List.setIfInBounds_toArray, List.set_cons_zero, List.set_cons_succ]
                    refine wpAnyH_take (i := 12) (oi := ⟨some 162, _, _, _, _, _⟩) (v := undef) rfl (by kernel_rfl) (by kernel_rfl) (by kernel_rfl) (fun _ _ _ h => h) (Or.inr ⟨by rfl, rfl⟩) (Fr.refl _ _) ?rt12
                    try simp only [Act.put, List.setIfInBounds_toArray, List.set_cons_zero, List.set_cons_succ]
                    refine wpAnyH_take (i := 13) (oi := ⟨some 163, _, _, _, _, _⟩) (v := undef) rfl (by kernel_rfl) (by kernel_rfl) (by kernel_rfl) (fun _ _ _ h => h) (Or.inr ⟨by rfl, rfl⟩) (Fr.refl _ _) ?rt13
                    try simp only [Act.put, List.setIfInBounds_toArray, List.set_cons_zero, List.set_cons_succ]
                    refine wpAnyH_take (i := 14) (oi := ⟨some 164, _, _, _, _, _⟩) (v := undef) rfl (by kernel_rfl) (by kernel_rfl) (by kernel_rfl) (fun _ _ _ h => h) (Or.inr ⟨by rfl, rfl⟩) (Fr.refl _ _) ?rt14
                    try simp only [Act.put, List.setIfInBounds_toArray, List.set_cons_zero, List.set_cons_succ]
                    refine wpAnyH_take (i := 15) (oi := ⟨some 165, _, _, _, _, _⟩) (v := undef) rfl (by kernel_rfl) (by kernel_rfl) (by kernel_rfl) (fun _ _ _ h => h) (Or.inr ⟨by rfl, rfl⟩) (Fr.refl _ _) ?rt15
                    try simp only [Act.put, List.setIfInBounds_toArray, List.set_cons_zero, List.set_cons_succ]
                    refine wpAnyH_take (i := 16) (oi := ⟨some 166, _, _, _, _, _⟩) (v := undef) rfl (by kernel_rfl) (by kernel_rfl) (by kernel_rfl) (fun _ _ _ h => h) (Or.inr ⟨by rfl, rfl⟩) (Fr.refl _ _) ?rt16
                    try simp only [Act.put, List.setIfInBounds_toArray, List.set_cons_zero, List.set_cons_succ]
                    refine wpAnyH_take (i := 17) (oi := ⟨some 167, _, _, _, _, _⟩) (v := undef) rfl (by kernel_rfl) (by kernel_rfl) (by kernel_rfl) (fun _ _ _ h => h) (Or.inr ⟨by rfl, rfl⟩) (Fr.refl _ _) ?rt17
                    try simp only [Act.put, List.setIfInBounds_toArray, List.set_cons_zero, List.set_cons_succ]
                    refine wpAnyH_take (i := 18) (oi := ⟨some 168, _, _, _, _, _⟩) (v := undef) rfl (by kernel_rfl) (by kernel_rfl) (by kernel_rfl) (fun _ _ _ h => h) (Or.inr ⟨by rfl, rfl⟩) (Fr.refl _ _) ?rt18
                    try simp only [Act.put, List.setIfInBounds_toArray, List.set_cons_zero, List.set_cons_succ]
                    refine wpAnyH_take (i := 19) (oi := ⟨some 169, _, _, _, _, _⟩) (v := undef) rfl (by kernel_rfl) (by kernel_rfl) (by kernel_rfl) (fun _ _ _ h => h) (Or.inr ⟨by rfl, rfl⟩) (Fr.refl _ _) ?rt19
                    try simp only [Act.put, List.setIfInBounds_toArray, List.set_cons_zero, List.set_cons_succ]
                    refine wpAnyH_take (i := 20) (oi := ⟨some 170, _, _, _, _, _⟩) (v := undef) rfl (by kernel_rfl) (by kernel_rfl) (by kernel_rfl) (fun _ _ _ h => h) (Or.inr ⟨by rfl, rfl⟩) (Fr.refl _ _) ?rt20
                    try simp only [Act.put, List.setIfInBounds_toArray, List.set_cons_zero, List.set_cons_succ]
                    refine wpAnyH_take (i := 21) (oi := ⟨some 171, _, _, _, _, _⟩) (v := undef) rfl (by kernel_rfl) (by kernel_rfl) (by kernel_rfl) (fun _ _ _ h => h) (Or.inr ⟨by rfl, rfl⟩) (Fr.refl _ _) ?rt21
                    try simp only [Act.put, List.setIfInBounds_toArray, List.set_cons_zero, List.set_cons_succ]
                    refine wpAnyH_take (i := 22) (oi := ⟨some 172, _, _, _, _, _⟩) (v := undef) rfl (by kernel_rfl) (by kernel_rfl) (by kernel_rfl) (fun _ _ _ h => h) (Or.inr ⟨by rfl, rfl⟩) (Fr.refl _ _) ?rt22
                    try simp only [Act.put, List.setIfInBounds_toArray, List.set_cons_zero, List.set_cons_succ]
                    refine wpAnyH_take (i := 23) (oi := ⟨some 173, _, _, _, _, _⟩) (v := undef) rfl (by kernel_rfl) (by kernel_rfl) (by kernel_rfl) (fun _ _ _ h => h) (Or.inr ⟨by rfl, rfl⟩) (Fr.refl _ _) ?rt23
                    try simp only [Act.put, List.setIfInBounds_toArray, List.set_cons_zero, List.set_cons_succ]
                    refine wpAnyH_take (i := 24) (oi := ⟨some 174, _, _, _, _, _⟩) (v := ?vt24) rfl (by kernel_rfl) (by kernel_rfl) (by kernel_rfl) (fun _ _ _ h => h) (Or.inl ⟨by rfl, ?yt24⟩) (Fr.refl _ _) ?rt24
                    case yt24 =>
                      intro wq hSw
                      (try dsimp only at hSw)
                      first | (go_simp; done) | (go_simp; with_reducible rfl)
                    try simp only [Act.put, List.setIfInBounds_toArray, List.set_cons_zero, List.set_cons_succ]
                    refine wpAnyH_take (i := 25) (oi := ⟨some 17, _, _, _, _, _⟩) (v := ?vt25) rfl (by kernel_rfl) (by kernel_rfl) (by kernel_rfl) (fun _ _ _ h => h) (Or.inl ⟨by rfl, ?yt25⟩) (Fr.refl _ _) ?rt25
                    case yt25 =>
                      intro wq hSw
                      (try dsimp only at hSw)
                      first | (go_simp; done) | (go_simp; with_reducible rfl)
                    try simp only [Act.put, List.setIfInBounds_toArray, List.set_cons_zero, List.set_cons_succ]
                    refine wpAnyH_done (by kernel_rfl) ?_ _
                    go_wp2_with fail
                    go_roundw
                    case rel => exact ⟨t + 1, by omega, by go_num, by rw [Hsu.out, Hsd.out]; rfl, HBz.out⟩
                    case measure => simp [intOf]; omega
                · have hti : ¬ (t : Int) < (nl : Int) := by omega
                  obtain rfl : t = nl := by omega
                  have hall : said9 M its2 j u bb t = true := by
                    have h1 := HS.out j hjM
                    rw [← Hbb.out, HU.out] at h1
                    have h2 := said9_all M its2 j u bb (by rw [← HL.out] ; exact h1)
                    rw [← HL.out] at h2
                    exact h2
                  rw [hall]
                  clear hall
                  go_wp2_with fail
                  go_roundw
                  case rel => exact ⟨j + 1, by omega, by go_num, M8.out.laterB HB.out, L8.out.later DK HB.out⟩
                  case measure => simp [intOf]; omega
            · have hji : ¬ (j : Int) < (M : Int) := by omega
              go_wp2_with fail
              refine (Lr.out.waits DK).mono ?_; rintro e w6 ⟨he, hb⟩
              rw [HO.out.wait] at he
              subst he
              have L6 := Lib.hid (Lr.out.later DK hb)
              clear hb
              go_wp2_with fail
              refine (stores9_any DK _).mono ?_; rintro e wz ⟨rfl, hbz⟩
              have HBZ := Lib.hid (L6.out.later DK hbz)
              clear hbz
              go_wp2_with fail
              go_ret
              exact ⟨rfl, HBZ.out.bel⟩
end Go.Proofs.Ytmlmlmlbdjhfhaa
