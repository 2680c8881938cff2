/-
  ArrayApart over DrvK: it returns true, whatever its arguments. (Written by gen_dtl.py.)
-/
import Derived.Test.YtjjoeaneaibklaaDtm
import Derived.Deep.RegionHeld3
import Derived.Deep.MidRow
import Derived.Deep.WholeRow
import Derived.Deep.DeepCutAuto
namespace Go.Proofs.Ytjjoeaneaibklaa
open Go.RowKit Go.Proofs
set_option linter.unusedVariables false

section
variable {Rep : World → (Nat → Prop) → Nat → Dv → Prop}
set_option maxRecDepth 100000
set_option maxHeartbeats 12800000
theorem arrayApart_any (DK : DrvK Rep) (n m z : Int) (A0 : Option Addr) (c0 : Nat) (its : List Bc) (w : World) (bn : -9223372036854775808 ≤ n ∧ n < 9223372036854775808) (bm : -9223372036854775808 ≤ m ∧ m < 9223372036854775808) (bz : -9223372036854775808 ≤ z ∧ z < 9223372036854775808) (hp : Bcs w A0 its.length c0 its) :
    Calls Try.prog 4 #[.int .i64 n, .int .i64 m, .int .i64 z, .slice A0 its.length c0] w (SaysTrue w) := by
  have hfw := few10_any 0 A0 c0 its w hp
  obtain ⟨nl, hnl⟩ : ∃ nl, nl = its.length := ⟨_, rfl⟩
  rw [← hnl] at hp hfw ⊢
  have HP := Lib.hid hp
  have HNL := Lib.hid hnl
  clear hp hnl
  by_cases g0 : n < 2
  · go_enter Try.func4, Try.ntmps4
    go_wp2_with fail
    refine (stands10_any DK _).mono ?_; rintro e wz ⟨rfl, hbz⟩
    go_wp2_with fail
    go_ret
    exact ⟨rfl, hbz⟩
  by_cases g1 : 8 < n
  · go_enter Try.func4, Try.ntmps4
    go_wp2_with fail
    refine (stands10_any DK _).mono ?_; rintro e wz ⟨rfl, hbz⟩
    go_wp2_with fail
    go_ret
    exact ⟨rfl, hbz⟩
  by_cases g2 : m < 1
  · go_enter Try.func4, Try.ntmps4
    go_wp2_with fail
    refine (stands10_any DK _).mono ?_; rintro e wz ⟨rfl, hbz⟩
    go_wp2_with fail
    go_ret
    exact ⟨rfl, hbz⟩
  by_cases g3 : 10 < m
  · go_enter Try.func4, Try.ntmps4
    go_wp2_with fail
    refine (stands10_any DK _).mono ?_; rintro e wz ⟨rfl, hbz⟩
    go_wp2_with fail
    go_ret
    exact ⟨rfl, hbz⟩
  by_cases g4 : z < 0
  · go_enter Try.func4, Try.ntmps4
    go_wp2_with fail
    refine (stands10_any DK _).mono ?_; rintro e wz ⟨rfl, hbz⟩
    go_wp2_with fail
    go_ret
    exact ⟨rfl, hbz⟩
  by_cases g5 : n ≤ z
  · go_enter Try.func4, Try.ntmps4
    go_wp2_with fail
    refine (stands10_any DK _).mono ?_; rintro e wz ⟨rfl, hbz⟩
    go_wp2_with fail
    go_ret
    exact ⟨rfl, hbz⟩
  obtain ⟨N, rfl⟩ : ∃ N : Nat, n = (N : Int) := ⟨n.toNat, by omega⟩
  obtain ⟨M, rfl⟩ : ∃ M : Nat, m = (M : Int) := ⟨m.toNat, by omega⟩
  obtain ⟨dd, rfl⟩ : ∃ dd : Nat, z = (dd : Int) := ⟨z.toNat, by omega⟩
  have hdN : dd < N := by omega
  go_enter Try.func4, Try.ntmps4
  go_wp2_with fail
  refine hfw.mono ?_; clear hfw; rintro e w0 ⟨β, rfl, hβ, hb0⟩
  have B0 := Lib.hid hb0
  clear hb0
  cases β
  · clear hβ
    go_wp2_with fail
    refine (stands10_any DK _).mono ?_; rintro e w2 ⟨rfl, hb⟩
    have B2 := Lib.hid (B0.out.trans (hb.mono B0.out.size))
    clear hb
    go_wp2_with fail
    go_ret
    exact ⟨rfl, B2.out⟩
  have hnl80 : nl ≤ 80 := hβ rfl
  clear hβ
  go_wp2_with fail
  refine (arnew_yes DK N M w0 (by omega) (by omega) (by omega) (by omega)).mono ?_; rintro e w1 ⟨A, S1, rfl, ha1, hb1, hS1⟩
  have L1 := Lib.hid (show La Rep w w1 S1 A (List.replicate N (Dv.new M)) from La.of_new B0.out ha1 hb1 hS1)
  clear ha1 hb1 hS1
  go_wp2_with fail
  go_loopw [10] (fun i wr => ∃ (t : Nat) (xs : List Dv) (S : Nat → Prop), t ≤ M ∧ i = .int .i64 (t : Int) ∧ Live M t xs ∧ xs.length = N ∧ La Rep w wr S A xs) (fun i _ => M - (intOf i).toNat)
  case atStart => exact ⟨0, _, S1, by omega, rfl, live_new, List.length_replicate .., L1.out⟩
  case round =>
    obtain ⟨t, xs, S, ht, rfl, hlv, hxl, hL⟩ := hrel
    have LV := Lib.hid hlv
    have XL := Lib.hid hxl
    have LL := Lib.hid hL
    clear hlv hxl hL L1
    by_cases hlt : t < M
    · have hti : (t : Int) < (M : Int) := by omega
      obtain ⟨q, hq⟩ : ∃ q, q = min N 4 := ⟨_, rfl⟩
      have HQ := Lib.hid hq
      have HMin := Lib.hid (show min (N : Int) 4 = (q : Int) by omega)
      clear hq
      go_wp2_with fail
      refine (rows10_four _ (UInt8.ofNat t) ?_ wr).mono ?_
      · rw [UInt8.toNat_ofNat']
        first | omega | (simp only [IntKind.wrap_u8]; omega)
      rintro e w2 ⟨A2, c2, rfl, hns, hb2⟩
      have L2 := Lib.hid (LL.out.later DK hb2)
      have hP := arputrow_any DK L2.out.ap (LV.out.wl (by omega)) (by rw [XL.out]; omega) (t : Int) (by omega) (by omega) hns (fun b hb hq => by have := LL.out.old hq; omega)
      rw [XL.out, LV.out.putN _ hlt (min N 4) (by rw [XL.out]; omega) (by omega), ← HQ.out] at hP
      clear hns hb2
      go_wp2_with fail
      refine hP.mono ?_; clear hP; rintro e w3 ⟨rfl, hm⟩
      obtain ⟨S3, hL3, _⟩ := L2.out.mut hm
      have L3 := Lib.hid hL3
      clear hm hL3 L2
      have HLV := Lib.hid (LV.out.put (UInt8.ofNat t) (t : Int) q)
      have HXL := Lib.hid (show (putS xs (rowsL (UInt8.ofNat t) 4) (t : Int) q).length = N from upTo_len.trans XL.out)
      rcases Nat.lt_or_ge 4 N with h4 | h4
      · have h4i : (4 : Int) < (N : Int) := by omega
        obtain rfl : q = 4 := by have := HQ.out; omega
        go_wp2_with fail
        go_roundw
        case rel => exact ⟨t + 1, _, S3, by omega, by go_num, HLV.out, HXL.out, L3.out⟩
        case measure => simp [intOf]; omega
      · have h4i : ¬ (4 : Int) < (N : Int) := by omega
        obtain rfl : q = N := by have := HQ.out; omega
        go_wp2_with fail
        go_roundw
        case rel => exact ⟨t + 1, _, S3, by omega, by go_num, HLV.out, HXL.out, L3.out⟩
        case measure => simp [intOf]; omega
    · obtain rfl : t = M := by omega
      have hti : ¬ (t : Int) < (t : Int) := by omega
      go_wp2_with fail
      refine (arcopy_any DK LL.out.ap (LV.out.wl (by omega)) (by rw [XL.out]; omega)).mono ?_; rintro e w2 ⟨B, Sb, rfl, hbp, hb2, hbS⟩
      have LB := Lib.hid (show La Rep w w2 Sb B xs from La.of_new LL.out.bel hbp hb2 hbS)
      have LA := Lib.hid (LL.out.later DK hb2)
      have DD := Lib.hid (show ∀ b, S b → ¬ Sb b from fun b hb hq => by have := hbS b hq; have := LL.out.old hb; omega)
      clear hbp hb2 hbS LL hti
      go_wp2_with fail
      go_loopw [12] (fun i wr => ∃ (r : Nat) (ys : List Dv) (S' : Nat → Prop), r ≤ nl ∧ i = .int .i64 (r : Int) ∧ But dd ys xs ∧ Wl (10 + r) ys ∧ La Rep w wr S' A ys ∧ La Rep w wr Sb B xs ∧ (∀ b, S' b → ¬ Sb b)) (fun i _ => nl - (intOf i).toNat)
      case atStart => exact ⟨0, xs, S, by omega, rfl, But.refl _ _, LV.out.wl (by omega), LA.out, LB.out, DD.out⟩
      case round =>
        obtain ⟨r, ys, S', hr, rfl, hbt, hwl, hla, hlb, hdd⟩ := hrel
        have BT := Lib.hid hbt
        have WL := Lib.hid hwl
        have LA := Lib.hid hla
        have LB := Lib.hid hlb
        have DD := Lib.hid hdd
        have YL := Lib.hid (show ys.length = N from hbt.1.trans XL.out)
        clear hbt hwl hla hlb hdd
        by_cases hrl : r < nl
        · have hri : (r : Int) < (nl : Int) := by omega
          obtain ⟨a, ha⟩ : ∃ a, its[r]? = some a := ⟨_, List.getElem?_eq_getElem (by have := HNL.out; omega)⟩
          obtain ⟨ba, oa, rfl, hcell, hok⟩ := (HP.out.below LA.out.bel).cell r a ha
          have OK := Lib.hid hok
          have hrg : wr.rangeAt ba (oa + r * 7) [.int .i64 a.kind, .int .i64 a.d, .int .i64 a.at_, .int .i64 a.off, .int .u8 (a.c.toNat : Int), .int .u32 (a.mask : Int), .slice a.KA a.ks.length a.kc] := hcell
          have hzz := zero10a
          have hbx := Bx.of wr a dd
          have hb3 : Below wr.heap.size wr (wr.alloc (.cells #[.int .i64 a.kind, .int .i64 (dd : Int), .int .i64 a.at_, .int .i64 a.off, .int .u8 (a.c.toNat : Int), .int .u32 (a.mask : Int), .slice a.KA a.ks.length a.kc] 33)) := (Below.refl _ _).alloc (Nat.le_refl _) _
          obtain ⟨w3, hw3⟩ : ∃ v, v = (wr.alloc (.cells #[.int .i64 a.kind, .int .i64 (dd : Int), .int .i64 a.at_, .int .i64 a.off, .int .u8 (a.c.toNat : Int), .int .u32 (a.mask : Int), .slice a.KA a.ks.length a.kc] 33)) := ⟨_, rfl⟩
          rw [← hw3] at hbx hb3
          have HW3 := Lib.hid hw3
          have HBX := Lib.hid hbx
          have HB3 := Lib.hid hb3
          have NB := Lib.hid (show ¬ S' wr.heap.size from fun q => by have := LA.out.old q; omega)
          clear hok hcell ha hbx hb3 hw3
          by_cases k0 : a.kind = 0
          · go_wp2_with (first
              | (refine at_dst (d := 77) ?_; refine wpList_load_mid (op := ⟨some 77, _, _, _, _, _⟩) rfl 33 (.tmp 76) rfl ba (oa + r * 7) rfl _ _ hrg Try.underlying33 rfl (sizeA10l a) ?_)
              | (refine at_none ?_; refine wpList_store_row (o := ⟨none, _, _, _, _, _⟩) rfl 33 (.tmp 13) (.tmp 77) rfl wr.heap.size _ rfl rfl 33 _ (heap_alloc_last _ _) (sizeA10 a) rfl (oneA10 a) ?_; rw [World.setRow_alloc_new]))
            first
              | rw [← HW3.out]
              | (have h := HW3.out; rw [k0] at h; rw [← h]; clear h)
            clear hrg hzz
            have L3 := Lib.hid (LA.out.later DK (Below.drew HB3.out))
            have Q2 := Lib.hid (show w3.drew.cell? ⟨wr.heap.size, 2, none⟩ = some (.int .i64 a.at_) from HBX.out.c2)
            have Q4 := Lib.hid (show w3.drew.cell? ⟨wr.heap.size, 4, none⟩ = some (.int .u8 (a.c.toNat : Int)) from HBX.out.c4)
            have SS := Lib.hid (show ∀ b, S' b → ¬ Sb b from DD.out)
            refine wp_region_held_drew (S := fun w' => Fr (S') w3.drew w') (by kernel_rfl) (Fr.refl _ _) (fun hHeld => ?_)
            clear hHeld
            refine wpAnyH_take (i := 0) (oi := ⟨some 96, _, _, _, _, _⟩) (v := ?vk0x0) rfl (by kernel_rfl) (by kernel_rfl) (by kernel_rfl) (fun _ _ _ h => h) (Or.inl ⟨by rfl, ?yk0x0⟩) (Fr.refl _ _) ?rk0x0
            case yk0x0 =>
              intro wq hSw
              (try dsimp only at hSw)
              first | (go_simp; done) | (go_simp; with_reducible rfl)
            try simp only [Act.put, List.setIfInBounds_toArray, List.set_cons_zero, List.set_cons_succ]
            refine wpAnyH_take (i := 1) (oi := ⟨some 97, _, _, _, _, _⟩) (v := ?vk0x1) rfl (by kernel_rfl) (by kernel_rfl) (by kernel_rfl) (fun _ _ _ h => h) (Or.inl ⟨by rfl, ?yk0x1⟩) (Fr.refl _ _) ?rk0x1
            case yk0x1 =>
              intro wq hSw
              (try dsimp only at hSw)
              first | (go_simp; done) | (go_simp; with_reducible rfl)
            try simp only [Act.put, List.setIfInBounds_toArray, List.set_cons_zero, List.set_cons_succ]
            refine wpAnyH_take (i := 2) (oi := ⟨some 98, _, _, _, _, _⟩) (v := ?vk0x2) rfl (by kernel_rfl) (by kernel_rfl) (by kernel_rfl) (fun _ _ _ h => h) (Or.inl ⟨by rfl, ?yk0x2⟩) (Fr.refl _ _) ?rk0x2
            case yk0x2 =>
              intro wq hSw
              (try dsimp only at hSw)
              first | (go_simp; done) | (go_simp; with_reducible rfl)
            try simp only [Act.put, List.setIfInBounds_toArray, List.set_cons_zero, List.set_cons_succ]
            refine wpAnyH_take (i := 3) (oi := ⟨some 99, _, _, _, _, _⟩) (v := ?vk0x3) rfl (by kernel_rfl) (by kernel_rfl) (by kernel_rfl) (fun _ _ _ h => h) (Or.inl ⟨by rfl, ?yk0x3⟩) (Fr.refl _ _) ?rk0x3
            case yk0x3 =>
              intro wq hSw
              (try dsimp only at hSw)
              have hq := hSw.cell_some Q2.out NB.out
              first | (go_simp; done) | (go_simp; with_reducible rfl)
            try simp only [Act.put, List.setIfInBounds_toArray, List.set_cons_zero, List.set_cons_succ]
            refine wpAnyH_take (i := 4) (oi := ⟨some 100, _, _, _, _, _⟩) (v := ?vk0x4) rfl (by kernel_rfl) (by kernel_rfl) (by kernel_rfl) (fun _ _ _ h => h) (Or.inl ⟨by rfl, ?yk0x4⟩) (Fr.refl _ _) ?rk0x4
            case yk0x4 =>
              intro wq hSw
              (try dsimp only at hSw)
              first | (go_simp; done) | (go_simp; with_reducible rfl)
            try simp only [Act.put, List.setIfInBounds_toArray, List.set_cons_zero, List.set_cons_succ]
            refine wpAnyH_take (i := 5) (oi := ⟨some 101, _, _, _, _, _⟩) (v := ?vk0x5) rfl (by kernel_rfl) (by kernel_rfl) (by kernel_rfl) (fun _ _ _ h => h) (Or.inl ⟨by rfl, ?yk0x5⟩) (Fr.refl _ _) ?rk0x5
            case yk0x5 =>
              intro wq hSw
              (try dsimp only at hSw)
              have hq := hSw.cell_some Q4.out NB.out
              first | (go_simp; done) | (go_simp; with_reducible rfl)
            try simp only [Act.put, List.setIfInBounds_toArray, List.set_cons_zero, List.set_cons_succ]
            refine wpAnyH_ready (rs := [6]) (by kernel_rfl) (by simp) ?_
            refine AllReadyH.cons (o := ⟨some 102, _, _, _, _, _⟩) rfl (fun K hK => ?_) AllReadyH.nil
            go_simp
            refine (full10 _ a.c rfl _).mono ?_; rintro e w4 ⟨A4, c4, rfl, hs4, hb4, -⟩
            have HS4 := Lib.hid hs4
            have L4 := Lib.hid (L3.out.later DK hb4)
            have HB4 := Lib.hid hb4
            have hfr := Fr.of_below (S := S') hb4
            clear hs4 hb4
            go_wp2_with fail
            refine hK.out _ _ hfr (fun hHeld => ?_)
            clear hK K hHeld
            try simp only [Act.put, List.setIfInBounds_toArray, List.set_cons_zero, List.set_cons_succ]
            refine wpAnyH_re (S' := fun w' => Fr (S') w4 w') (fun w' h => hfr.trans h) ?_
            clear hfr
            refine wpAnyH_ready (rs := [7]) (by kernel_rfl) (by simp) ?_
            refine AllReadyH.cons (o := ⟨some 103, _, _, _, _, _⟩) rfl (fun K hK => ?_) AllReadyH.nil
            go_simp
            have hh := arwrite_any DK L4.out.ap (by rw [YL.out]; omega) (dd : Int) a.at_ A4 64 c4 (full a.c) OK.out.at1 OK.out.at2 (wl_up WL.out (by omega)) HS4.out
            refine hh.mono ?_; clear hh; rintro e w5 ⟨rfl, hm⟩
            have HM := Lib.hid hm
            have hfr : Fr S' w4 w5 := hm.choose_spec.2.1
            clear hm
            go_wp2_with fail
            refine hK.out _ _ hfr (fun hHeld => ?_)
            clear hK K hHeld
            try simp only [Act.put, List.setIfInBounds_toArray, List.set_cons_zero, List.set_cons_succ]
            refine wpAnyH_re (S' := fun w' => Fr (S') w5 w') (fun w' h => hfr.trans h) ?_
            clear hfr
            refine wpAnyH_done (by kernel_rfl) ?_ _
            go_wp2_with fail
            obtain ⟨S5, hLA, hLB, hD5, _⟩ := L4.out.mut2 DK (LB.out.later DK (((Below.drew HB3.out).trans (HB4.out.mono (Below.drew HB3.out).size)))) DD.out HM.out
            have LA5 := Lib.hid hLA
            have LB5 := Lib.hid hLB
            have D5 := Lib.hid hD5
            have BT5 := Lib.hid (BT.out.on (fun x => x.write a.at_ (full a.c)))
            have WL5 := Lib.hid (show Wl (10 + (r + 1)) _ from on_wl (z := (dd : Int)) (f := (fun x => x.write a.at_ (full a.c))) WL.out (fun x hx => write_wait x _ _ _ hx))
            clear hLA hLB hD5
            go_roundw
            case rel => exact ⟨r + 1, _, S5, by omega, by go_num, BT5.out, WL5.out, LA5.out, LB5.out, D5.out⟩
            case measure => simp [intOf]; omega
          by_cases k1 : a.kind = 1
          · go_wp2_with (first
              | (refine at_dst (d := 77) ?_; refine wpList_load_mid (op := ⟨some 77, _, _, _, _, _⟩) rfl 33 (.tmp 76) rfl ba (oa + r * 7) rfl _ _ hrg Try.underlying33 rfl (sizeA10l a) ?_)
              | (refine at_none ?_; refine wpList_store_row (o := ⟨none, _, _, _, _, _⟩) rfl 33 (.tmp 13) (.tmp 77) rfl wr.heap.size _ rfl rfl 33 _ (heap_alloc_last _ _) (sizeA10 a) rfl (oneA10 a) ?_; rw [World.setRow_alloc_new]))
            first
              | rw [← HW3.out]
              | (have h := HW3.out; rw [k1] at h; rw [← h]; clear h)
            clear hrg hzz
            have L3 := Lib.hid (LA.out.later DK (Below.drew HB3.out))
            have Q2 := Lib.hid (show w3.drew.cell? ⟨wr.heap.size, 2, none⟩ = some (.int .i64 a.at_) from HBX.out.c2)
            have Q4 := Lib.hid (show w3.drew.cell? ⟨wr.heap.size, 4, none⟩ = some (.int .u8 (a.c.toNat : Int)) from HBX.out.c4)
            have SS := Lib.hid (show ∀ b, S' b → ¬ Sb b from DD.out)
            refine wp_region_held_drew (S := fun w' => Fr (S') w3.drew w') (by kernel_rfl) (Fr.refl _ _) (fun hHeld => ?_)
            clear hHeld
            refine wpAnyH_take (i := 0) (oi := ⟨some 96, _, _, _, _, _⟩) (v := ?vk1x0) rfl (by kernel_rfl) (by kernel_rfl) (by kernel_rfl) (fun _ _ _ h => h) (Or.inl ⟨by rfl, ?yk1x0⟩) (Fr.refl _ _) ?rk1x0
            case yk1x0 =>
              intro wq hSw
              (try dsimp only at hSw)
              first | (go_simp; done) | (go_simp; with_reducible rfl)
            try simp only [Act.put, List.setIfInBounds_toArray, List.set_cons_zero, List.set_cons_succ]
            refine wpAnyH_take (i := 1) (oi := ⟨some 97, _, _, _, _, _⟩) (v := ?vk1x1) rfl (by kernel_rfl) (by kernel_rfl) (by kernel_rfl) (fun _ _ _ h => h) (Or.inl ⟨by rfl, ?yk1x1⟩) (Fr.refl _ _) ?rk1x1
            case yk1x1 =>
              intro wq hSw
              (try dsimp only at hSw)
              first | (go_simp; done) | (go_simp; with_reducible rfl)
            try simp only [Act.put, List.setIfInBounds_toArray, List.set_cons_zero, List.set_cons_succ]
            refine wpAnyH_take (i := 2) (oi := ⟨some 98, _, _, _, _, _⟩) (v := ?vk1x2) rfl (by kernel_rfl) (by kernel_rfl) (by kernel_rfl) (fun _ _ _ h => h) (Or.inl ⟨by rfl, ?yk1x2⟩) (Fr.refl _ _) ?rk1x2
            case yk1x2 =>
              intro wq hSw
              (try dsimp only at hSw)
              first | (go_simp; done) | (go_simp; with_reducible rfl)
            try simp only [Act.put, List.setIfInBounds_toArray, List.set_cons_zero, List.set_cons_succ]
            refine wpAnyH_take (i := 3) (oi := ⟨some 99, _, _, _, _, _⟩) (v := ?vk1x3) rfl (by kernel_rfl) (by kernel_rfl) (by kernel_rfl) (fun _ _ _ h => h) (Or.inl ⟨by rfl, ?yk1x3⟩) (Fr.refl _ _) ?rk1x3
            case yk1x3 =>
              intro wq hSw
              (try dsimp only at hSw)
              have hq := hSw.cell_some Q2.out NB.out
              first | (go_simp; done) | (go_simp; with_reducible rfl)
            try simp only [Act.put, List.setIfInBounds_toArray, List.set_cons_zero, List.set_cons_succ]
            refine wpAnyH_take (i := 4) (oi := ⟨some 100, _, _, _, _, _⟩) (v := ?vk1x4) rfl (by kernel_rfl) (by kernel_rfl) (by kernel_rfl) (fun _ _ _ h => h) (Or.inl ⟨by rfl, ?yk1x4⟩) (Fr.refl _ _) ?rk1x4
            case yk1x4 =>
              intro wq hSw
              (try dsimp only at hSw)
              first | (go_simp; done) | (go_simp; with_reducible rfl)
            try simp only [Act.put, List.setIfInBounds_toArray, List.set_cons_zero, List.set_cons_succ]
            refine wpAnyH_take (i := 5) (oi := ⟨some 101, _, _, _, _, _⟩) (v := ?vk1x5) rfl (by kernel_rfl) (by kernel_rfl) (by kernel_rfl) (fun _ _ _ h => h) (Or.inl ⟨by rfl, ?yk1x5⟩) (Fr.refl _ _) ?rk1x5
            case yk1x5 =>
              intro wq hSw
              (try dsimp only at hSw)
              have hq := hSw.cell_some Q4.out NB.out
              first | (go_simp; done) | (go_simp; with_reducible rfl)
            try simp only [Act.put, List.setIfInBounds_toArray, List.set_cons_zero, List.set_cons_succ]
            refine wpAnyH_ready (rs := [6]) (by kernel_rfl) (by simp) ?_
            refine AllReadyH.cons (o := ⟨some 102, _, _, _, _, _⟩) rfl (fun K hK => ?_) AllReadyH.nil
            go_simp
            refine (full10 _ a.c rfl _).mono ?_; rintro e w4 ⟨A4, c4, rfl, hs4, hb4, -⟩
            have HS4 := Lib.hid hs4
            have L4 := Lib.hid (L3.out.later DK hb4)
            have HB4 := Lib.hid hb4
            have hfr := Fr.of_below (S := S') hb4
            clear hs4 hb4
            go_wp2_with fail
            refine hK.out _ _ hfr (fun hHeld => ?_)
            clear hK K hHeld
            try simp only [Act.put, List.setIfInBounds_toArray, List.set_cons_zero, List.set_cons_succ]
            refine wpAnyH_re (S' := fun w' => Fr (S') w4 w') (fun w' h => hfr.trans h) ?_
            clear hfr
            refine wpAnyH_ready (rs := [7]) (by kernel_rfl) (by simp) ?_
            refine AllReadyH.cons (o := ⟨some 103, _, _, _, _, _⟩) rfl (fun K hK => ?_) AllReadyH.nil
            go_simp
            have hh := arwrite_any DK L4.out.ap (by rw [YL.out]; omega) (dd : Int) a.at_ A4 64 c4 (full a.c) OK.out.at1 OK.out.at2 (wl_up WL.out (by omega)) HS4.out
            refine hh.mono ?_; clear hh; rintro e w5 ⟨rfl, hm⟩
            have HM := Lib.hid hm
            have hfr : Fr S' w4 w5 := hm.choose_spec.2.1
            clear hm
            go_wp2_with fail
            refine hK.out _ _ hfr (fun hHeld => ?_)
            clear hK K hHeld
            try simp only [Act.put, List.setIfInBounds_toArray, List.set_cons_zero, List.set_cons_succ]
            refine wpAnyH_re (S' := fun w' => Fr (S') w5 w') (fun w' h => hfr.trans h) ?_
            clear hfr
            refine wpAnyH_done (by kernel_rfl) ?_ _
            go_wp2_with fail
            obtain ⟨S5, hLA, hLB, hD5, _⟩ := L4.out.mut2 DK (LB.out.later DK (((Below.drew HB3.out).trans (HB4.out.mono (Below.drew HB3.out).size)))) DD.out HM.out
            have LA5 := Lib.hid hLA
            have LB5 := Lib.hid hLB
            have D5 := Lib.hid hD5
            have BT5 := Lib.hid (BT.out.on (fun x => x.write a.at_ (full a.c)))
            have WL5 := Lib.hid (show Wl (10 + (r + 1)) _ from on_wl (z := (dd : Int)) (f := (fun x => x.write a.at_ (full a.c))) WL.out (fun x hx => write_wait x _ _ _ hx))
            clear hLA hLB hD5
            go_roundw
            case rel => exact ⟨r + 1, _, S5, by omega, by go_num, BT5.out, WL5.out, LA5.out, LB5.out, D5.out⟩
            case measure => simp [intOf]; omega
          by_cases k2 : a.kind = 2
          · go_wp2_with (first
              | (refine at_dst (d := 77) ?_; refine wpList_load_mid (op := ⟨some 77, _, _, _, _, _⟩) rfl 33 (.tmp 76) rfl ba (oa + r * 7) rfl _ _ hrg Try.underlying33 rfl (sizeA10l a) ?_)
              | (refine at_none ?_; refine wpList_store_row (o := ⟨none, _, _, _, _, _⟩) rfl 33 (.tmp 13) (.tmp 77) rfl wr.heap.size _ rfl rfl 33 _ (heap_alloc_last _ _) (sizeA10 a) rfl (oneA10 a) ?_; rw [World.setRow_alloc_new]))
            first
              | rw [← HW3.out]
              | (have h := HW3.out; rw [k2] at h; rw [← h]; clear h)
            clear hrg hzz
            have L3 := Lib.hid (LA.out.later DK (Below.drew HB3.out))
            have Q2 := Lib.hid (show w3.drew.cell? ⟨wr.heap.size, 2, none⟩ = some (.int .i64 a.at_) from HBX.out.c2)
            have Q4 := Lib.hid (show w3.drew.cell? ⟨wr.heap.size, 4, none⟩ = some (.int .u8 (a.c.toNat : Int)) from HBX.out.c4)
            have SS := Lib.hid (show ∀ b, S' b → ¬ Sb b from DD.out)
            refine wp_region_held_drew (S := fun w' => Fr (S') w3.drew w') (by kernel_rfl) (Fr.refl _ _) (fun hHeld => ?_)
            clear hHeld
            refine wpAnyH_take (i := 0) (oi := ⟨some 96, _, _, _, _, _⟩) (v := ?vk2x0) rfl (by kernel_rfl) (by kernel_rfl) (by kernel_rfl) (fun _ _ _ h => h) (Or.inl ⟨by rfl, ?yk2x0⟩) (Fr.refl _ _) ?rk2x0
            case yk2x0 =>
              intro wq hSw
              (try dsimp only at hSw)
              first | (go_simp; done) | (go_simp; with_reducible rfl)
            try simp only [Act.put, List.setIfInBounds_toArray, List.set_cons_zero, List.set_cons_succ]
            refine wpAnyH_take (i := 1) (oi := ⟨some 97, _, _, _, _, _⟩) (v := ?vk2x1) rfl (by kernel_rfl) (by kernel_rfl) (by kernel_rfl) (fun _ _ _ h => h) (Or.inl ⟨by rfl, ?yk2x1⟩) (Fr.refl _ _) ?rk2x1
            case yk2x1 =>
              intro wq hSw
              (try dsimp only at hSw)
              first | (go_simp; done) | (go_simp; with_reducible rfl)
            try simp only [Act.put, List.setIfInBounds_toArray, List.set_cons_zero, List.set_cons_succ]
            refine wpAnyH_take (i := 2) (oi := ⟨some 98, _, _, _, _, _⟩) (v := ?vk2x2) rfl (by kernel_rfl) (by kernel_rfl) (by kernel_rfl) (fun _ _ _ h => h) (Or.inl ⟨by rfl, ?yk2x2⟩) (Fr.refl _ _) ?rk2x2
            case yk2x2 =>
              intro wq hSw
              (try dsimp only at hSw)
              first | (go_simp; done) | (go_simp; with_reducible rfl)
            try simp only [Act.put, List.setIfInBounds_toArray, List.set_cons_zero, List.set_cons_succ]
            refine wpAnyH_take (i := 3) (oi := ⟨some 99, _, _, _, _, _⟩) (v := ?vk2x3) rfl (by kernel_rfl) (by kernel_rfl) (by kernel_rfl) (fun _ _ _ h => h) (Or.inl ⟨by rfl, ?yk2x3⟩) (Fr.refl _ _) ?rk2x3
            case yk2x3 =>
              intro wq hSw
              (try dsimp only at hSw)
              have hq := hSw.cell_some Q2.out NB.out
              first | (go_simp; done) | (go_simp; with_reducible rfl)
            try simp only [Act.put, List.setIfInBounds_toArray, List.set_cons_zero, List.set_cons_succ]
            refine wpAnyH_take (i := 4) (oi := ⟨some 100, _, _, _, _, _⟩) (v := ?vk2x4) rfl (by kernel_rfl) (by kernel_rfl) (by kernel_rfl) (fun _ _ _ h => h) (Or.inl ⟨by rfl, ?yk2x4⟩) (Fr.refl _ _) ?rk2x4
            case yk2x4 =>
              intro wq hSw
              (try dsimp only at hSw)
              first | (go_simp; done) | (go_simp; with_reducible rfl)
            try simp only [Act.put, List.setIfInBounds_toArray, List.set_cons_zero, List.set_cons_succ]
            refine wpAnyH_take (i := 5) (oi := ⟨some 101, _, _, _, _, _⟩) (v := ?vk2x5) rfl (by kernel_rfl) (by kernel_rfl) (by kernel_rfl) (fun _ _ _ h => h) (Or.inl ⟨by rfl, ?yk2x5⟩) (Fr.refl _ _) ?rk2x5
            case yk2x5 =>
              intro wq hSw
              (try dsimp only at hSw)
              have hq := hSw.cell_some Q4.out NB.out
              first | (go_simp; done) | (go_simp; with_reducible rfl)
            try simp only [Act.put, List.setIfInBounds_toArray, List.set_cons_zero, List.set_cons_succ]
            refine wpAnyH_ready (rs := [6]) (by kernel_rfl) (by simp) ?_
            refine AllReadyH.cons (o := ⟨some 102, _, _, _, _, _⟩) rfl (fun K hK => ?_) AllReadyH.nil
            go_simp
            refine (full10 _ a.c rfl _).mono ?_; rintro e w4 ⟨A4, c4, rfl, hs4, hb4, -⟩
            have HS4 := Lib.hid hs4
            have L4 := Lib.hid (L3.out.later DK hb4)
            have HB4 := Lib.hid hb4
            have hfr := Fr.of_below (S := S') hb4
            clear hs4 hb4
            go_wp2_with fail
            refine hK.out _ _ hfr (fun hHeld => ?_)
            clear hK K hHeld
            try simp only [Act.put, List.setIfInBounds_toArray, List.set_cons_zero, List.set_cons_succ]
            refine wpAnyH_re (S' := fun w' => Fr (S') w4 w') (fun w' h => hfr.trans h) ?_
            clear hfr
            refine wpAnyH_ready (rs := [7]) (by kernel_rfl) (by simp) ?_
            refine AllReadyH.cons (o := ⟨some 103, _, _, _, _, _⟩) rfl (fun K hK => ?_) AllReadyH.nil
            go_simp
            have hh := arwrite_any DK L4.out.ap (by rw [YL.out]; omega) (dd : Int) a.at_ A4 64 c4 (full a.c) OK.out.at1 OK.out.at2 (wl_up WL.out (by omega)) HS4.out
            refine hh.mono ?_; clear hh; rintro e w5 ⟨rfl, hm⟩
            have HM := Lib.hid hm
            have hfr : Fr S' w4 w5 := hm.choose_spec.2.1
            clear hm
            go_wp2_with fail
            refine hK.out _ _ hfr (fun hHeld => ?_)
            clear hK K hHeld
            try simp only [Act.put, List.setIfInBounds_toArray, List.set_cons_zero, List.set_cons_succ]
            refine wpAnyH_re (S' := fun w' => Fr (S') w5 w') (fun w' h => hfr.trans h) ?_
            clear hfr
            refine wpAnyH_done (by kernel_rfl) ?_ _
            go_wp2_with fail
            obtain ⟨S5, hLA, hLB, hD5, _⟩ := L4.out.mut2 DK (LB.out.later DK (((Below.drew HB3.out).trans (HB4.out.mono (Below.drew HB3.out).size)))) DD.out HM.out
            have LA5 := Lib.hid hLA
            have LB5 := Lib.hid hLB
            have D5 := Lib.hid hD5
            have BT5 := Lib.hid (BT.out.on (fun x => x.write a.at_ (full a.c)))
            have WL5 := Lib.hid (show Wl (10 + (r + 1)) _ from on_wl (z := (dd : Int)) (f := (fun x => x.write a.at_ (full a.c))) WL.out (fun x hx => write_wait x _ _ _ hx))
            clear hLA hLB hD5
            go_roundw
            case rel => exact ⟨r + 1, _, S5, by omega, by go_num, BT5.out, WL5.out, LA5.out, LB5.out, D5.out⟩
            case measure => simp [intOf]; omega
          by_cases k3 : a.kind = 3
          · go_wp2_with (first
              | (refine at_dst (d := 77) ?_; refine wpList_load_mid (op := ⟨some 77, _, _, _, _, _⟩) rfl 33 (.tmp 76) rfl ba (oa + r * 7) rfl _ _ hrg Try.underlying33 rfl (sizeA10l a) ?_)
              | (refine at_none ?_; refine wpList_store_row (o := ⟨none, _, _, _, _, _⟩) rfl 33 (.tmp 13) (.tmp 77) rfl wr.heap.size _ rfl rfl 33 _ (heap_alloc_last _ _) (sizeA10 a) rfl (oneA10 a) ?_; rw [World.setRow_alloc_new]))
            first
              | rw [← HW3.out]
              | (have h := HW3.out; rw [k3] at h; rw [← h]; clear h)
            clear hrg hzz
            have L3 := Lib.hid (LA.out.later DK (Below.drew HB3.out))
            have Q2 := Lib.hid (show w3.drew.cell? ⟨wr.heap.size, 2, none⟩ = some (.int .i64 a.at_) from HBX.out.c2)
            have Q4 := Lib.hid (show w3.drew.cell? ⟨wr.heap.size, 4, none⟩ = some (.int .u8 (a.c.toNat : Int)) from HBX.out.c4)
            have SS := Lib.hid (show ∀ b, S' b → ¬ Sb b from DD.out)
            refine wp_region_held_drew (S := fun w' => Fr (S') w3.drew w') (by kernel_rfl) (Fr.refl _ _) (fun hHeld => ?_)
            clear hHeld
            refine wpAnyH_take (i := 0) (oi := ⟨some 96, _, _, _, _, _⟩) (v := ?vk3x0) rfl (by kernel_rfl) (by kernel_rfl) (by kernel_rfl) (fun _ _ _ h => h) (Or.inl ⟨by rfl, ?yk3x0⟩) (Fr.refl _ _) ?rk3x0
            case yk3x0 =>
              intro wq hSw
              (try dsimp only at hSw)
              first | (go_simp; done) | (go_simp; with_reducible rfl)
            try simp only [Act.put, List.setIfInBounds_toArray, List.set_cons_zero, List.set_cons_succ]
            refine wpAnyH_take (i := 1) (oi := ⟨some 97, _, _, _, _, _⟩) (v := ?vk3x1) rfl (by kernel_rfl) (by kernel_rfl) (by kernel_rfl) (fun _ _ _ h => h) (Or.inl ⟨by rfl, ?yk3x1⟩) (Fr.refl _ _) ?rk3x1
            case yk3x1 =>
              intro wq hSw
              (try dsimp only at hSw)
              first | (go_simp; done) | (go_simp; with_reducible rfl)
            try simp only [Act.put, List.setIfInBounds_toArray, List.set_cons_zero, List.set_cons_succ]
            refine wpAnyH_take (i := 2) (oi := ⟨some 98, _, _, _, _, _⟩) (v := ?vk3x2) rfl (by kernel_rfl) (by kernel_rfl) (by kernel_rfl) (fun _ _ _ h => h) (Or.inl ⟨by rfl, ?yk3x2⟩) (Fr.refl _ _) ?rk3x2
            case yk3x2 =>
              intro wq hSw
              (try dsimp only at hSw)
              first | (go_simp; done) | (go_simp; with_reducible rfl)
            try simp only [Act.put, List.setIfInBounds_toArray, List.set_cons_zero, List.set_cons_succ]
            refine wpAnyH_take (i := 3) (oi := ⟨some 99, _, _, _, _, _⟩) (v := ?vk3x3) rfl (by kernel_rfl) (by kernel_rfl) (by kernel_rfl) (fun _ _ _ h => h) (Or.inl ⟨by rfl, ?yk3x3⟩) (Fr.refl _ _) ?rk3x3
            case yk3x3 =>
              intro wq hSw
              (try dsimp only at hSw)
              have hq := hSw.cell_some Q2.out NB.out
              first | (go_simp; done) | (go_simp; with_reducible rfl)
            try simp only [Act.put, List.setIfInBounds_toArray, List.set_cons_zero, List.set_cons_succ]
            refine wpAnyH_take (i := 4) (oi := ⟨some 100, _, _, _, _, _⟩) (v := ?vk3x4) rfl (by kernel_rfl) (by kernel_rfl) (by kernel_rfl) (fun _ _ _ h => h) (Or.inl ⟨by rfl, ?yk3x4⟩) (Fr.refl _ _) ?rk3x4
            case yk3x4 =>
              intro wq hSw
              (try dsimp only at hSw)
              first | (go_simp; done) | (go_simp; with_reducible rfl)
            try simp only [Act.put, List.setIfInBounds_toArray, List.set_cons_zero, List.set_cons_succ]
            refine wpAnyH_take (i := 5) (oi := ⟨some 101, _, _, _, _, _⟩) (v := ?vk3x5) rfl (by kernel_rfl) (by kernel_rfl) (by kernel_rfl) (fun _ _ _ h => h) (Or.inl ⟨by rfl, ?yk3x5⟩) (Fr.refl _ _) ?rk3x5
            case yk3x5 =>
              intro wq hSw
              (try dsimp only at hSw)
              have hq := hSw.cell_some Q4.out NB.out
              first | (go_simp; done) | (go_simp; with_reducible rfl)
            try simp only [Act.put, List.setIfInBounds_toArray, List.set_cons_zero, List.set_cons_succ]
            refine wpAnyH_ready (rs := [6]) (by kernel_rfl) (by simp) ?_
            refine AllReadyH.cons (o := ⟨some 102, _, _, _, _, _⟩) rfl (fun K hK => ?_) AllReadyH.nil
            go_simp
            refine (full10 _ a.c rfl _).mono ?_; rintro e w4 ⟨A4, c4, rfl, hs4, hb4, -⟩
            have HS4 := Lib.hid hs4
            have L4 := Lib.hid (L3.out.later DK hb4)
            have HB4 := Lib.hid hb4
            have hfr := Fr.of_below (S := S') hb4
            clear hs4 hb4
            go_wp2_with fail
            refine hK.out _ _ hfr (fun hHeld => ?_)
            clear hK K hHeld
            try simp only [Act.put, List.setIfInBounds_toArray, List.set_cons_zero, List.set_cons_succ]
            refine wpAnyH_re (S' := fun w' => Fr (S') w4 w') (fun w' h => hfr.trans h) ?_
            clear hfr
            refine wpAnyH_ready (rs := [7]) (by kernel_rfl) (by simp) ?_
            refine AllReadyH.cons (o := ⟨some 103, _, _, _, _, _⟩) rfl (fun K hK => ?_) AllReadyH.nil
            go_simp
            have hh := arwrite_any DK L4.out.ap (by rw [YL.out]; omega) (dd : Int) a.at_ A4 64 c4 (full a.c) OK.out.at1 OK.out.at2 (wl_up WL.out (by omega)) HS4.out
            refine hh.mono ?_; clear hh; rintro e w5 ⟨rfl, hm⟩
            have HM := Lib.hid hm
            have hfr : Fr S' w4 w5 := hm.choose_spec.2.1
            clear hm
            go_wp2_with fail
            refine hK.out _ _ hfr (fun hHeld => ?_)
            clear hK K hHeld
            try simp only [Act.put, List.setIfInBounds_toArray, List.set_cons_zero, List.set_cons_succ]
            refine wpAnyH_re (S' := fun w' => Fr (S') w5 w') (fun w' h => hfr.trans h) ?_
            clear hfr
            refine wpAnyH_done (by kernel_rfl) ?_ _
            go_wp2_with fail
            obtain ⟨S5, hLA, hLB, hD5, _⟩ := L4.out.mut2 DK (LB.out.later DK (((Below.drew HB3.out).trans (HB4.out.mono (Below.drew HB3.out).size)))) DD.out HM.out
            have LA5 := Lib.hid hLA
            have LB5 := Lib.hid hLB
            have D5 := Lib.hid hD5
            have BT5 := Lib.hid (BT.out.on (fun x => x.write a.at_ (full a.c)))
            have WL5 := Lib.hid (show Wl (10 + (r + 1)) _ from on_wl (z := (dd : Int)) (f := (fun x => x.write a.at_ (full a.c))) WL.out (fun x hx => write_wait x _ _ _ hx))
            clear hLA hLB hD5
            go_roundw
            case rel => exact ⟨r + 1, _, S5, by omega, by go_num, BT5.out, WL5.out, LA5.out, LB5.out, D5.out⟩
            case measure => simp [intOf]; omega
          by_cases k4 : a.kind = 4
          · go_wp2_with (first
              | (refine at_dst (d := 77) ?_; refine wpList_load_mid (op := ⟨some 77, _, _, _, _, _⟩) rfl 33 (.tmp 76) rfl ba (oa + r * 7) rfl _ _ hrg Try.underlying33 rfl (sizeA10l a) ?_)
              | (refine at_none ?_; refine wpList_store_row (o := ⟨none, _, _, _, _, _⟩) rfl 33 (.tmp 13) (.tmp 77) rfl wr.heap.size _ rfl rfl 33 _ (heap_alloc_last _ _) (sizeA10 a) rfl (oneA10 a) ?_; rw [World.setRow_alloc_new]))
            first
              | rw [← HW3.out]
              | (have h := HW3.out; rw [k4] at h; rw [← h]; clear h)
            clear hrg hzz
            have L3 := Lib.hid (LA.out.later DK HB3.out)
            refine (arfail_any DK L3.out.ap (by rw [YL.out]; omega) (dd : Int)).mono ?_; rintro e w5 ⟨rfl, hm⟩
            have HM := Lib.hid hm
            clear hm
            go_wp2_with fail
            obtain ⟨S5, hLA, hLB, hD5, _⟩ := L3.out.mut2 DK (LB.out.later DK HB3.out) DD.out HM.out
            have LA5 := Lib.hid hLA
            have LB5 := Lib.hid hLB
            have D5 := Lib.hid hD5
            have BT5 := Lib.hid (BT.out.on (fun x => x.fail))
            have WL5 := Lib.hid (show Wl (10 + (r + 1)) _ from on_wl (z := (dd : Int)) (f := (fun x => x.fail)) WL.out (fun x hx => by show (0 : Nat) ≤ _; omega))
            clear hLA hLB hD5
            go_roundw
            case rel => exact ⟨r + 1, _, S5, by omega, by go_num, BT5.out, WL5.out, LA5.out, LB5.out, D5.out⟩
            case measure => simp [intOf]; omega
          by_cases k5 : a.kind = 5
          · go_wp2_with (first
              | (refine at_dst (d := 77) ?_; refine wpList_load_mid (op := ⟨some 77, _, _, _, _, _⟩) rfl 33 (.tmp 76) rfl ba (oa + r * 7) rfl _ _ hrg Try.underlying33 rfl (sizeA10l a) ?_)
              | (refine at_none ?_; refine wpList_store_row (o := ⟨none, _, _, _, _, _⟩) rfl 33 (.tmp 13) (.tmp 77) rfl wr.heap.size _ rfl rfl 33 _ (heap_alloc_last _ _) (sizeA10 a) rfl (oneA10 a) ?_; rw [World.setRow_alloc_new]))
            first
              | rw [← HW3.out]
              | (have h := HW3.out; rw [k5] at h; rw [← h]; clear h)
            clear hrg hzz
            have L3 := Lib.hid (LA.out.later DK HB3.out)
            refine (arfail_any DK L3.out.ap (by rw [YL.out]; omega) (dd : Int)).mono ?_; rintro e w5 ⟨rfl, hm⟩
            have HM := Lib.hid hm
            clear hm
            go_wp2_with fail
            obtain ⟨S5, hLA, hLB, hD5, _⟩ := L3.out.mut2 DK (LB.out.later DK HB3.out) DD.out HM.out
            have LA5 := Lib.hid hLA
            have LB5 := Lib.hid hLB
            have D5 := Lib.hid hD5
            have BT5 := Lib.hid (BT.out.on (fun x => x.fail))
            have WL5 := Lib.hid (show Wl (10 + (r + 1)) _ from on_wl (z := (dd : Int)) (f := (fun x => x.fail)) WL.out (fun x hx => by show (0 : Nat) ≤ _; omega))
            clear hLA hLB hD5
            go_roundw
            case rel => exact ⟨r + 1, _, S5, by omega, by go_num, BT5.out, WL5.out, LA5.out, LB5.out, D5.out⟩
            case measure => simp [intOf]; omega
          by_cases k6 : a.kind = 6
          · go_wp2_with (first
              | (refine at_dst (d := 77) ?_; refine wpList_load_mid (op := ⟨some 77, _, _, _, _, _⟩) rfl 33 (.tmp 76) rfl ba (oa + r * 7) rfl _ _ hrg Try.underlying33 rfl (sizeA10l a) ?_)
              | (refine at_none ?_; refine wpList_store_row (o := ⟨none, _, _, _, _, _⟩) rfl 33 (.tmp 13) (.tmp 77) rfl wr.heap.size _ rfl rfl 33 _ (heap_alloc_last _ _) (sizeA10 a) rfl (oneA10 a) ?_; rw [World.setRow_alloc_new]))
            first
              | rw [← HW3.out]
              | (have h := HW3.out; rw [k6] at h; rw [← h]; clear h)
            clear hrg hzz
            have L3 := Lib.hid (LA.out.later DK HB3.out)
            refine (arreplace_any DK L3.out.ap (by rw [YL.out]; omega) (dd : Int)).mono ?_; rintro e w5 ⟨rfl, hm⟩
            have HM := Lib.hid hm
            clear hm
            go_wp2_with fail
            obtain ⟨S5, hLA, hLB, hD5, _⟩ := L3.out.mut2 DK (LB.out.later DK HB3.out) DD.out HM.out
            have LA5 := Lib.hid hLA
            have LB5 := Lib.hid hLB
            have D5 := Lib.hid hD5
            have BT5 := Lib.hid (BT.out.on (fun x => x.replace))
            have WL5 := Lib.hid (show Wl (10 + (r + 1)) _ from on_wl (z := (dd : Int)) (f := (fun x => x.replace)) WL.out (fun x hx => by show (0 : Nat) ≤ _; omega))
            clear hLA hLB hD5
            go_roundw
            case rel => exact ⟨r + 1, _, S5, by omega, by go_num, BT5.out, WL5.out, LA5.out, LB5.out, D5.out⟩
            case measure => simp [intOf]; omega
          go_wp2_with (first
            | (refine at_dst (d := 77) ?_; refine wpList_load_mid (op := ⟨some 77, _, _, _, _, _⟩) rfl 33 (.tmp 76) rfl ba (oa + r * 7) rfl _ _ hrg Try.underlying33 rfl (sizeA10l a) ?_)
            | (refine at_none ?_; refine wpList_store_row (o := ⟨none, _, _, _, _, _⟩) rfl 33 (.tmp 13) (.tmp 77) rfl wr.heap.size _ rfl rfl 33 _ (heap_alloc_last _ _) (sizeA10 a) rfl (oneA10 a) ?_; rw [World.setRow_alloc_new]))
          rw [← HW3.out]
          clear hrg hzz
          have L3 := Lib.hid (LA.out.later DK HB3.out)
          refine (arrot_any DK L3.out.ap (by rw [YL.out]; omega) (dd : Int) a.at_ a.off a.mask OK.out.at1 OK.out.at2 OK.out.off1 OK.out.off2 OK.out.mask).mono ?_; rintro e w5 ⟨rfl, hm⟩
          have HM := Lib.hid hm
          clear hm
          go_wp2_with fail
          obtain ⟨S5, hLA, hLB, hD5, _⟩ := L3.out.mut2 DK (LB.out.later DK HB3.out) DD.out HM.out
          have LA5 := Lib.hid hLA
          have LB5 := Lib.hid hLB
          have D5 := Lib.hid hD5
          have BT5 := Lib.hid (BT.out.on (fun x => x.rot1 a.at_ a.off (a.mask : Int)))
          have WL5 := Lib.hid (show Wl (10 + (r + 1)) _ from on_wl (z := (dd : Int)) (f := (fun x => x.rot1 a.at_ a.off (a.mask : Int))) WL.out (fun x hx => by rw [rot_wait]; omega))
          clear hLA hLB hD5
          go_roundw
          case rel => exact ⟨r + 1, _, S5, by omega, by go_num, BT5.out, WL5.out, LA5.out, LB5.out, D5.out⟩
          case measure => simp [intOf]; omega
        · have hri : ¬ (r : Int) < (nl : Int) := by omega
          clear hrl
          go_wp2_with fail
          go_loopw [14] (fun i wr => ∃ k : Nat, k ≤ N ∧ i = .int .i64 (k : Int) ∧ La Rep w wr S' A ys ∧ La Rep w wr Sb B xs) (fun i _ => N - (intOf i).toNat)
          case atStart => exact ⟨0, by omega, rfl, LA.out, LB.out⟩
          case round =>
            obtain ⟨k, hk, rfl, hla, hlb⟩ := hrel
            have LA := Lib.hid hla
            have LB := Lib.hid hlb
            clear hla hlb
            by_cases hkN : k < N
            · have hkNi : (k : Int) < (N : Int) := by omega
              go_wp2_with fail
              go_loopw [15] (fun i wr => ∃ p : Nat, p ≤ t ∧ i = .int .i64 (p : Int) ∧ La Rep w wr S' A ys ∧ La Rep w wr Sb B xs) (fun i _ => t - (intOf i).toNat)
              case atStart => exact ⟨0, by omega, rfl, LA.out, LB.out⟩
              case round =>
                obtain ⟨p, hp, rfl, hla, hlb⟩ := hrel
                have LA := Lib.hid hla
                have LB := Lib.hid hlb
                clear hla hlb
                by_cases hpt : p < t
                · have hpi : (p : Int) < (t : Int) := by omega
                  by_cases hkd : k = dd
                  · have hkdi : (k : Int) = (dd : Int) := by omega
                    go_wp2_with fail
                    go_roundw
                    case rel => exact ⟨k + 1, by omega, by go_num, LA.out, LB.out⟩
                    case measure => simp [intOf]; omega
                  · have hkdi : ¬ (k : Int) = (dd : Int) := by omega
                    obtain ⟨x, hx⟩ : ∃ x, xs[k]? = some x := ⟨_, List.getElem?_eq_getElem (by have := XL.out; omega)⟩
                    have hy : ys[k]? = some x := (BT.out.2 k hkd).trans hx
                    obtain ⟨x1, x2, x3, x4⟩ := LV.out k x hx
                    have hrot : x.rottenB (p : Int) = false := by
                      unfold Dv.rottenB
                      rw [x3, Int.toNat_natCast]
                      have : (List.replicate t false).getD p false = false := by simp [hpt]
                      rw [this, Bool.and_false]
                    have HX := Lib.hid hx
                    have HY := Lib.hid hy
                    have HG := Lib.hid x1
                    have HRo := Lib.hid hrot
                    have hR1 := arread_any DK LA.out.ap (by rw [YL.out]; omega) (k : Int) (p : Int) (by omega) (by omega) (wl_up WL.out (by omega))
                    simp only [tellD_yes hy] at hR1
                    obtain ⟨l, hl⟩ : ∃ l, l = x.readL (p : Int) := ⟨_, rfl⟩
                    obtain ⟨ex, hex⟩ : ∃ ex, ex = x.readX (p : Int) := ⟨_, rfl⟩
                    rw [← hl, ← hex] at hR1
                    have HL := Lib.hid hl
                    have HEx := Lib.hid hex
                    clear hx hy x1 x2 x3 x4 hrot hl hex
                    go_wp2_with fail
                    refine hR1.mono ?_; clear hR1; rintro e w5 ⟨A5, n5, c5, rfl, hs5, hb5, _⟩
                    have HS5 := Lib.hid hs5
                    have LA5 := Lib.hid (LA.out.later DK hb5)
                    have LB5 := Lib.hid (LB.out.later DK hb5)
                    clear hs5 hb5
                    go_wp2_with fail
                    have hR2 := arread_any DK LB5.out.ap (by rw [XL.out]; omega) (k : Int) (p : Int) (by omega) (by omega) (LV.out.wl (by omega))
                    simp only [tellD_yes HX.out] at hR2
                    rw [← HL.out, ← HEx.out] at hR2
                    refine hR2.mono ?_; clear hR2; rintro e w6 ⟨A6, n6, c6, rfl, hs6, hb6, _⟩
                    have j1 := str_of (HS5.out.below hb6 (Nat.le_refl _))
                    have j2 := str_of hs6
                    have LA6 := Lib.hid (LA5.out.later DK hb6)
                    have LB6 := Lib.hid (LB5.out.later DK hb6)
                    clear hs6 hb6
                    go_wp2_with fail
                    have hD := ardead_any DK LA6.out.ap (by rw [YL.out]; omega) (k : Int)
                    simp only [tellD_yes HY.out] at hD
                    rw [HG.out] at hD
                    refine hD.mono ?_; clear hD; rintro e w7 ⟨rfl, hb7⟩
                    have LA7 := Lib.hid (LA6.out.later DK hb7)
                    have LB7 := Lib.hid (LB6.out.later DK hb7)
                    clear hb7 j1 j2
                    go_wp2_with fail
                    obtain ⟨wl, hwl⟩ : ∃ wl, wl = (x.wait.length : Int) := ⟨_, rfl⟩
                    have hW := arwaits_any DK LA7.out.ap (by rw [YL.out]; omega) (k : Int)
                    simp only [tellD_yes HY.out] at hW
                    rw [← hwl] at hW
                    refine hW.mono ?_; clear hW; rintro e w8 ⟨rfl, hb8⟩
                    have LA8 := Lib.hid (LA7.out.later DK hb8)
                    have LB8 := Lib.hid (LB7.out.later DK hb8)
                    clear hb8
                    have HWl := Lib.hid hwl
                    clear hwl
                    go_wp2_with fail
                    have hW := arwaits_any DK LB8.out.ap (by rw [XL.out]; omega) (k : Int)
                    simp only [tellD_yes HX.out] at hW
                    rw [← HWl.out] at hW
                    refine hW.mono ?_; clear hW; rintro e w9 ⟨rfl, hb9⟩
                    have LA9 := Lib.hid (LA8.out.later DK hb9)
                    have LB9 := Lib.hid (LB8.out.later DK hb9)
                    clear hb9
                    go_wp2_with fail
                    have hR := arrotten_any DK LA9.out.ap (by rw [YL.out]; omega) (k : Int) (p : Int) (by omega) (by omega)
                    simp only [tellD_yes HY.out] at hR
                    rw [HRo.out] at hR
                    refine hR.mono ?_; clear hR; rintro e wA ⟨rfl, hbA⟩
                    have LAA := Lib.hid (LA9.out.later DK hbA)
                    have LBA := Lib.hid (LB9.out.later DK hbA)
                    clear hbA
                    go_wp2_with fail
                    go_roundw
                    case rel => exact ⟨p + 1, by omega, by go_num, LAA.out, LBA.out⟩
                    case measure => simp [intOf]; omega
                · have hpi : ¬ (p : Int) < (t : Int) := by omega
                  go_wp2_with fail
                  go_roundw
                  case rel => exact ⟨k + 1, by omega, by go_num, LA.out, LB.out⟩
                  case measure => simp [intOf]; omega
            · have hkNi : ¬ (k : Int) < (N : Int) := by omega
              go_wp2_with fail
              refine (stands10_any DK _).mono ?_; rintro e wz ⟨rfl, hbz⟩
              have HE := Lib.hid (LA.out.bel.trans (hbz.mono LA.out.bel.size))
              clear hbz
              go_wp2_with fail
              go_ret
              exact ⟨rfl, HE.out⟩
end
end Go.Proofs.Ytjjoeaneaibklaa
