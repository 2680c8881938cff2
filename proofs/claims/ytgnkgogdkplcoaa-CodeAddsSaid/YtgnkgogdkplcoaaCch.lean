/-
  CodeAdds returns true where its two numbers are right and its texts are short, and the second one is longer.
-/
import Derived.Test.YtgnkgogdkplcoaaCcf
import Derived.Deep.RegionHeld3
namespace Go.Proofs.Ytgnkgogdkplcoaa
open Go.RowKit Go.Proofs
set_option linter.unusedVariables false

set_option maxRecDepth 100000 in
set_option maxHeartbeats 25600000 in
theorem codeAdds_nb (K0 M0 na nb : Nat) (A : Option Addr) (pa : Nat) (a : List UInt8) (B : Option Addr) (pb : Nat) (b : List UInt8) (w : World) (hb1 : 1 ≤ K0) (hb2 : 1 ≤ M0) (hb3 : K0 + M0 ≤ 255) (h24 : ¬ (24 : Int) < (K0 : Int) + (M0 : Int)) (hta : ¬ (3000 : Int) < (na : Int)) (htb : ¬ (3000 : Int) < (nb : Int)) (hmx1 : (na : Int) < (nb : Int)) (ha : Sl w 1 A na pa (cells a)) (hb : Sl w 1 B nb pb (cells b)) :
    Calls Try.prog 7 #[.int .i64 (K0 : Int), .int .i64 (M0 : Int), .slice A na pa, .slice B nb pb] w (SaysTrue w) := by
  have hkw : IntKind.i64.wrap ((K0 : Int) + (M0 : Int)) = (K0 : Int) + (M0 : Int) := by rw [IntKind.wrap_i64]; omega
  have Ha := Lib.hid ha; clear ha
  have Hb := Lib.hid hb; clear hb
  obtain ⟨D, hD⟩ : ∃ D, D = nb / K0 := ⟨_, rfl⟩
  have hDle : D ≤ 3000 := by rw [hD]; exact Nat.le_trans (Nat.div_le_self _ _) (by omega)
  have hdv : wrap64 ((nb : Int) / (K0 : Int)) = (D : Int) := by
    rw [show (nb : Int) / (K0 : Int) = ((nb / K0 : Nat) : Int) from by simp, ← hD]
    unfold wrap64
    omega
  have hbig : nb < K0 * (D + 1) := by rw [hD]; exact Nat.lt_mul_div_succ _ (by omega)
  have hbig2 : (nb : Int) < (K0 : Int) * ((D : Int) + 1) := by
    have : ((K0 * (D + 1) : Nat) : Int) = (K0 : Int) * ((D : Int) + 1) := by simp
    omega
  have hW1 : 1 ≤ (D : Int) + 1 ∧ (D : Int) + 1 ≤ 65536 := by omega
  have hWn : ((D : Int) + 1).toNat = D + 1 := by omega
  have Hbig := Lib.hid hbig2
  have HW1 := Lib.hid hW1
  have HWn := Lib.hid hWn
  clear hD hbig hbig2 hW1 hWn
  go_enter Try.func7, Try.ntmps7
  go_wp2_with fail
  refine (new_any _).mono ?_; rintro e w1 ⟨rfl, hf, hb⟩
  obtain ⟨F, hF⟩ : ∃ F, F = w.heap.size + 1 := ⟨_, rfl⟩
  obtain ⟨T, hT⟩ : ∃ T, T = w.heap.size := ⟨_, rfl⟩
  rw [← hF] at hf ⊢
  rw [← hT] at hf
  have HT := Lib.hid (show w.heap.size ≤ T by omega)
  clear hF hT
  go_wp2_with fail
  refine (cnew_at F T (K0 : Int) (M0 : Int) K0 M0 rfl rfl ⟨hb1, hb2, hb3⟩ _ hf).mono ?_; rintro e w2 ⟨C, rfl, hC, hr⟩
  have L2 := Lib.hid (Lw.of hb HT.out hr hC.fld)
  have C2 := Lib.hid hC
  clear hf hb hC hr
  go_wp2_with fail
  have SA2 := Lib.hid (Ha.out.below L2.out.bel (Nat.le_refl _))
  have SB2 := Lib.hid (Hb.out.below L2.out.bel (Nat.le_refl _))
  refine (split_any C K0 M0 F T A na pa a ((D : Int) + 1) (by omega) (by omega) _ C2.out SA2.out).mono ?_; rintro e w5 ⟨hb5, hR⟩
  rcases hR with ⟨h1, _⟩ | ⟨_, h2, _⟩ | ⟨_, _, g1, rfl, hg1⟩
  · exact absurd HW1.out h1
  · exfalso; have := Hbig.out; omega
  rw [HWn.out] at hg1
  have L5 := Lib.hid (L2.out.later hb5)
  have C5 := Lib.hid (C2.out.later hb5)
  have SB5 := Lib.hid (SB2.out.below hb5 (Nat.le_refl _))
  have X5 := Lib.hid hg1
  clear hb5 hg1 L2 C2 SA2 SB2
  go_wp2_with fail
  refine (split_any C K0 M0 F T B nb pb b ((D : Int) + 1) (by omega) (by omega) _ C5.out SB5.out).mono ?_; rintro e w6 ⟨hb6, hR⟩
  rcases hR with ⟨h1, _⟩ | ⟨_, h2, _⟩ | ⟨_, _, g2, rfl, hg2⟩
  · exact absurd HW1.out h1
  · exfalso; have := Hbig.out; omega
  rw [HWn.out] at hg2
  have L6 := Lib.hid (L5.out.later hb6)
  have C6 := Lib.hid (C5.out.later hb6)
  have X6 := Lib.hid (X5.out.later hb6)
  have Y6 := Lib.hid hg2
  obtain ⟨wl, hwl⟩ : ∃ x, x = w6 := ⟨_, rfl⟩
  clear hb6 hg2 L5 C5 SB5 X5
  go_wp2_with fail
  go_loopw [15, 16] (fun v iv wr => ∃ (i : Nat) (A' : Option Addr) (c' : Nat), i ≤ K0 ∧ iv = .int .i64 (i : Int) ∧ v = .slice A' i c' ∧ Gg wr wl.heap.size A' i c' (bothL a b (D + 1) i) ∧ Below wl.heap.size wl wr) (fun _ iv _ => K0 - (intOf iv).toNat)
  case atStart => exact ⟨0, none, 0, by omega, rfl, rfl, Gg.nil _ _, by rw [hwl]; exact Below.refl _ _⟩
  case round =>
    rw [← hwl] at L6 C6 X6 Y6
    clear hwl
    obtain ⟨i, A', c', hi, rfl, rfl, hG, hb⟩ := hrel
    have HG := Lib.hid hG; clear hG
    have hszr := hb.size
    have Hb := Lib.hid hb; clear hb
    by_cases hlt : i < K0
    · obtain ⟨bx, ox, ex, hcx⟩ := X6.out.at_ (by omega)
      injection ex with ex; injection ex with ex eox
      subst ex; subst eox
      obtain ⟨Ax, cx, hx1, hx2⟩ := hcx i _ (show (cutL a (D + 1) K0)[i]? = some (cutR a (D + 1) i) by simp [cutL, hlt])
      rw [cutR_length] at hx1 hx2
      rw [Nat.zero_add] at hx1
      obtain ⟨by', oy, ey, hcy⟩ := Y6.out.at_ (by omega)
      injection ey with ey; injection ey with ey eoy
      subst ey; subst eoy
      obtain ⟨Ay, cy, hy1, hy2⟩ := hcy i _ (show (cutL b (D + 1) K0)[i]? = some (cutR b (D + 1) i) by simp [cutL, hlt])
      rw [cutR_length] at hy1 hy2
      rw [Nat.zero_add] at hy1
      have hlx := World.block_lt_of_cell? wl _ hx1
      have hly := World.block_lt_of_cell? wl _ hy1
      have HX := Lib.hid ((Hb.out.cell hlx).trans hx1)
      have HY := Lib.hid ((Hb.out.cell hly).trans hy1)
      have SX := Lib.hid hx2
      have SY := Lib.hid hy2
      replace hlx : g1 < wl.heap.size := hlx
      replace hly : g2 < wl.heap.size := hly
      clear hx1 hx2 hy1 hy2 hcx hcy
      go_upto_region 13 with (fail)
      have HG0 := Lib.hid (HG.out.later (Below.drew (Below.refl _ _)))
      refine wp_region_held_drew (S := fun w' => Fr (fun k => wl.heap.size ≤ k) wr w') (by kernel_rfl) (Fr.drew (Fr.refl _ _)) (fun hHeld => ?_)
      clear hHeld
      have hHeld : Fr (fun k => wl.heap.size ≤ k) wr wr.drew := Fr.drew (Fr.refl _ _)
      have hz_0 : wr.heap.size ≤ wr.drew.heap.size := Nat.le_refl _
      obtain ⟨v_1, hw⟩ : ∃ v_1, v_1 = wr.drew := ⟨_, rfl⟩
      rw [← hw] at hHeld hz_0 HG0 ⊢
      clear hw
      refine wpAnyH_take (i := 0) (oi := ⟨some 94, _, _, _, _, _⟩) (v := ?vg0_2) rfl (by kernel_rfl) (by kernel_rfl) (by kernel_rfl) (fun _ _ _ h => h) (Or.inl ⟨by rfl, ?yg0_2⟩) hHeld ?rg0_2
      case yg0_2 =>
        intro wq hSw
        (try dsimp only at hSw)
        first | (go_simp; done) | (go_simp; with_reducible rfl)
      try simp only [Act.put, List.setIfInBounds_toArray, List.set_cons_zero, List.set_cons_succ]
      refine wpAnyH_take (i := 1) (oi := ⟨some 95, _, _, _, _, _⟩) (v := ?vg1_3) rfl (by kernel_rfl) (by kernel_rfl) (by kernel_rfl) (fun _ _ _ h => h) (Or.inl ⟨by rfl, ?yg1_3⟩) hHeld ?rg1_3
      case yg1_3 =>
        intro wq hSw
        (try dsimp only at hSw)
        first | (go_simp; done) | (go_simp; with_reducible rfl)
      try simp only [Act.put, List.setIfInBounds_toArray, List.set_cons_zero, List.set_cons_succ]
      refine wpAnyH_take (i := 2) (oi := ⟨some 96, _, _, _, _, _⟩) (v := ?vg2_4) rfl (by kernel_rfl) (by kernel_rfl) (by kernel_rfl) (fun _ _ _ h => h) (Or.inl ⟨by rfl, ?yg2_4⟩) hHeld ?rg2_4
      case yg2_4 =>
        intro wq hSw
        (try dsimp only at hSw)
        first | (go_simp; done) | (go_simp; with_reducible rfl)
      try simp only [Act.put, List.setIfInBounds_toArray, List.set_cons_zero, List.set_cons_succ]
      refine wpAnyH_take (i := 3) (oi := ⟨some 97, _, _, _, _, _⟩) (v := ?vg3_5) rfl (by kernel_rfl) (by kernel_rfl) (by kernel_rfl) (fun _ _ _ h => h) (Or.inl ⟨by rfl, ?yg3_5⟩) hHeld ?rg3_5
      case yg3_5 =>
        intro wq hSw
        (try dsimp only at hSw)
        first | (go_simp; done) | (go_simp; with_reducible rfl)
      try simp only [Act.put, List.setIfInBounds_toArray, List.set_cons_zero, List.set_cons_succ]
      refine wpAnyH_take (i := 4) (oi := ⟨some 98, _, _, _, _, _⟩) (v := ?vg4_6) rfl (by kernel_rfl) (by kernel_rfl) (by kernel_rfl) (fun _ _ _ h => h) (Or.inl ⟨by rfl, ?yg4_6⟩) hHeld ?rg4_6
      case yg4_6 =>
        intro wq hSw
        (try dsimp only at hSw)
        have q0 := hSw.cell_some HX.out (by show ¬ wl.heap.size ≤ g1; omega)
        first | (go_simp; done) | (go_simp; with_reducible rfl)
      try simp only [Act.put, List.setIfInBounds_toArray, List.set_cons_zero, List.set_cons_succ]
      refine wpAnyH_take (i := 5) (oi := ⟨some 99, _, _, _, _, _⟩) (v := ?vg5_7) rfl (by kernel_rfl) (by kernel_rfl) (by kernel_rfl) (fun _ _ _ h => h) (Or.inl ⟨by rfl, ?yg5_7⟩) hHeld ?rg5_7
      case yg5_7 =>
        intro wq hSw
        (try dsimp only at hSw)
        first | (go_simp; done) | (go_simp; with_reducible rfl)
      try simp only [Act.put, List.setIfInBounds_toArray, List.set_cons_zero, List.set_cons_succ]
      refine wpAnyH_take (i := 6) (oi := ⟨some 100, _, _, _, _, _⟩) (v := ?vg6_8) rfl (by kernel_rfl) (by kernel_rfl) (by kernel_rfl) (fun _ _ _ h => h) (Or.inl ⟨by rfl, ?yg6_8⟩) hHeld ?rg6_8
      case yg6_8 =>
        intro wq hSw
        (try dsimp only at hSw)
        first | (go_simp; done) | (go_simp; with_reducible rfl)
      try simp only [Act.put, List.setIfInBounds_toArray, List.set_cons_zero, List.set_cons_succ]
      refine wpAnyH_take (i := 7) (oi := ⟨some 101, _, _, _, _, _⟩) (v := ?vg7_9) rfl (by kernel_rfl) (by kernel_rfl) (by kernel_rfl) (fun _ _ _ h => h) (Or.inl ⟨by rfl, ?yg7_9⟩) hHeld ?rg7_9
      case yg7_9 =>
        intro wq hSw
        (try dsimp only at hSw)
        first | (go_simp; done) | (go_simp; with_reducible rfl)
      try simp only [Act.put, List.setIfInBounds_toArray, List.set_cons_zero, List.set_cons_succ]
      refine wpAnyH_take (i := 8) (oi := ⟨some 102, _, _, _, _, _⟩) (v := ?vg8_10) rfl (by kernel_rfl) (by kernel_rfl) (by kernel_rfl) (fun _ _ _ h => h) (Or.inl ⟨by rfl, ?yg8_10⟩) hHeld ?rg8_10
      case yg8_10 =>
        intro wq hSw
        (try dsimp only at hSw)
        have q0 := hSw.cell_some HY.out (by show ¬ wl.heap.size ≤ g2; omega)
        first | (go_simp; done) | (go_simp; with_reducible rfl)
      try simp only [Act.put, List.setIfInBounds_toArray, List.set_cons_zero, List.set_cons_succ]
      refine wpAnyH_ready (rs := [9]) (by kernel_rfl) (by simp) ?_
      refine AllReadyH.cons (o := ⟨some 103, _, _, _, _, _⟩) rfl (fun K hK => ?_) (AllReadyH.nil)
      go_simp
      have hbl := Hb.out.trans (hHeld.below hszr (fun k hk => hk))
      have hh := added_any Ax (D + 1) cx (cutR a (D + 1) i) Ay (D + 1) cy (cutR b (D + 1) i) v_1 (SX.out.below hbl (Nat.le_refl _)) (SY.out.below hbl (Nat.le_refl _)) (by omega)
      clear hbl
      refine hh.mono ?_; clear hh; rintro e v_11 ⟨Ac, nc, cc, rfl, hsc, hbN, hmc⟩
      have hfN : Fr (fun k => wl.heap.size ≤ k) v_1 v_11 := Fr.of_below hbN
      have hnc : nc = (addL (cutR a (D + 1) i) (cutR b (D + 1) i)).length := by
        have := hsc.len
        rw [cells_length] at this
        omega
      have Hnc := Lib.hid hnc; clear hnc
      have Hoth := Lib.hid (show Oth A' Ac nc from fun b1 o1 o2 hn e1 e2 => by
        obtain ⟨g', cur, e', hg', _⟩ := hmc hn
        rw [e1] at e'; injection e' with e'; injection e' with e' _
        have := (HG0.out.own _ _ e2).2
        omega)
      have HG1 := Lib.hid (HG0.out.later hbN)
      have Hsc := Lib.hid hsc
      clear hsc hmc hbN HG0
      go_wp2_with fail
      have hHeld := hHeld.trans hfN
      have hz_12 := hfN.size
      refine hK.out _ _ hHeld (fun _ => ?_)
      clear hK K hfN
      try simp only [Act.put, List.setIfInBounds_toArray, List.set_cons_zero, List.set_cons_succ]
      refine wpAnyH_ready (rs := [10]) (by kernel_rfl) (by simp) ?_
      refine AllReadyH.cons (o := ⟨some 104, _, _, _, _, _⟩) rfl (fun K hK => ?_) (AllReadyH.nil)
      go_simp
      have hx := heap_alloc_new v_11 (.cells #[.slice Ac nc cc] 29)
      have hbB : Below v_11.heap.size v_11 (v_11.alloc (.cells #[.slice Ac nc cc] 29)) := (Below.refl _ _).alloc (Nat.le_refl _) _
      have hfN : Fr (fun k => wl.heap.size ≤ k) v_11 (v_11.alloc (.cells #[.slice Ac nc cc] 29)) := Fr.of_below hbB
      have HG2 := Lib.hid (HG1.out.later hbB)
      have Hsd := Lib.hid (Hsc.out.below hbB (Nat.le_refl _))
      clear hbB HG1 Hsc
      obtain ⟨xb, hxb⟩ : ∃ xb, xb = v_11.heap.size := ⟨_, rfl⟩
      obtain ⟨v_13, hw⟩ : ∃ x, x = v_11.alloc (.cells #[.slice Ac nc cc] 29) := ⟨_, rfl⟩
      rw [← hw] at hfN hx HG2 Hsd ⊢
      rw [← hxb] at hx ⊢
      clear hw hxb
      have HXb := Lib.hid hx; clear hx
      have hHeld := hHeld.trans hfN
      have hz_14 := hfN.size
      refine hK.out _ _ hHeld (fun _ => ?_)
      clear hK K hfN
      try simp only [Act.put, List.setIfInBounds_toArray, List.set_cons_zero, List.set_cons_succ]
      refine wpAnyH_ready (rs := [11]) (by kernel_rfl) (by simp) ?_
      refine AllReadyH.cons (o := ⟨some 105, _, _, _, _, _⟩) rfl (fun K hK => ?_) (AllReadyH.nil)
      have hszw := hHeld.size
      refine step_append_g1 (B := wl.heap.size) rfl (.tmp 94) (.tmp 104) rfl rfl HG2.out (by omega) Ac nc cc (addL (cutR a (D + 1) i) (cutR b (D + 1) i)) Hnc.out Hsd.out Hoth.out HXb.out rfl (by omega) ?_
      intro A3 c3 v_15 hg3 hb3
      rw [bothL_next] at hg3
      have hfN : Fr (fun k => wl.heap.size ≤ k) v_13 v_15 := Fr.of_belowAt hb3 (fun k hk => hk)
      have HG3 := Lib.hid hg3
      clear hg3 hb3 HXb HG2
      have hHeld := hHeld.trans hfN
      have hz_16 := hfN.size
      refine hK.out _ _ hHeld (fun _ => ?_)
      clear hK K hfN
      try simp only [Act.put, List.setIfInBounds_toArray, List.set_cons_zero, List.set_cons_succ]
      refine wpAnyH_take (i := 12) (oi := ⟨some 15, _, _, _, _, _⟩) (v := ?vg12_17) rfl (by kernel_rfl) (by kernel_rfl) (by kernel_rfl) (fun _ _ _ h => h) (Or.inl ⟨by rfl, ?yg12_17⟩) hHeld ?rg12_17
      case yg12_17 =>
        intro wq hSw
        (try dsimp only at hSw)
        first | (go_simp; done) | (go_simp; with_reducible rfl)
      try simp only [Act.put, List.setIfInBounds_toArray, List.set_cons_zero, List.set_cons_succ]
      refine wpAnyH_done (by kernel_rfl) ?_ _
      have Hb2 := Lib.hid (Hb.out.trans (hHeld.below hszr (fun k hk => hk)))
      clear hHeld
      go_wp2_with fail
      go_roundw
      case rel => exact ⟨i + 1, A3, c3, by omega, by go_num, rfl, HG3.out, Hb2.out⟩
      case measure => simp [intOf]; omega
    · obtain rfl : i = K0 := by omega
      have hmk := makes_eq (i : Int) i rfl (by omega)
      have ex1 := even_of (cutL_length a (D + 1) i) (cut_rows a (D + 1) i)
      have ex2 := even_of (cutL_length b (D + 1) i) (cut_rows b (D + 1) i)
      have ex3 := even_of (bothL_length a b (D + 1) i) (bothL_rows a b (D + 1) i)
      have ex4 := even_of (List.length_replicate (n := i)) (zero_rows i)
      have rx1 : ∀ r ∈ cutL a (D + 1) i, r.length ≤ 1048576 := fun r hr => by rw [cut_rows _ _ _ r hr]; omega
      have rx2 : ∀ r ∈ cutL b (D + 1) i, r.length ≤ 1048576 := fun r hr => by rw [cut_rows _ _ _ r hr]; omega
      have rx3 : ∀ r ∈ bothL a b (D + 1) i, r.length ≤ 1048576 := fun r hr => by rw [bothL_rows _ _ _ _ r hr]; omega
      have rx4 : ∀ r ∈ List.replicate i ([] : List UInt8), r.length ≤ 1048576 := fun r hr => by rw [zero_rows i r hr]; omega
      have E1 := Lib.hid ex1; have E2 := Lib.hid ex2; have E3 := Lib.hid ex3; have E4 := Lib.hid ex4
      have R1 := Lib.hid rx1; have R2 := Lib.hid rx2; have R3 := Lib.hid rx3; have R4 := Lib.hid rx4
      clear ex1 ex2 ex3 ex4 rx1 rx2 rx3 rx4
      have L7 := Lib.hid (L6.out.later Hb.out)
      have C7 := Lib.hid (C6.out.later Hb.out)
      have X7 := Lib.hid (X6.out.later Hb.out)
      have Y7 := Lib.hid (Y6.out.later Hb.out)
      have Z7 := Lib.hid HG.out.gr
      clear L6 C6 X6 Y6 HG
      go_wp2_with fail
      refine (encode_any C i M0 F T (some ⟨g1, 0, none⟩) i i (cutL a (D + 1) i) _ C7.out X7.out R1.out).mono ?_; rintro e w8 ⟨hb8, hR⟩
      rcases hR with ⟨hno, _⟩ | ⟨_, p1, rfl, hp1⟩
      · rw [E1.out] at hno; cases hno
      have L8 := Lib.hid (L7.out.later hb8); have C8 := Lib.hid (C7.out.later hb8); have Y8 := Lib.hid (Y7.out.later hb8); have Z8 := Lib.hid (Z7.out.later hb8); have P8 := Lib.hid hp1
      clear hb8 hp1 L7 C7 X7 Y7 Z7
      go_wp2_with fail
      refine (encode_any C i M0 F T (some ⟨g2, 0, none⟩) i i (cutL b (D + 1) i) _ C8.out Y8.out R2.out).mono ?_; rintro e w9 ⟨hb9, hR⟩
      rcases hR with ⟨hno, _⟩ | ⟨_, p2, rfl, hp2⟩
      · rw [E2.out] at hno; cases hno
      have L9 := Lib.hid (L8.out.later hb9); have C9 := Lib.hid (C8.out.later hb9); have Z9 := Lib.hid (Z8.out.later hb9); have P9 := Lib.hid (P8.out.later hb9); have Q9 := Lib.hid hp2
      clear hb9 hp2 L8 C8 Y8 Z8 P8
      go_wp2_with fail
      refine (encode_any C i M0 F T A' i c' (bothL a b (D + 1) i) _ C9.out Z9.out R3.out).mono ?_; rintro e w10 ⟨hb10, hR⟩
      rcases hR with ⟨hno, _⟩ | ⟨_, p3, rfl, hp3⟩
      · rw [E3.out] at hno; cases hno
      have L10 := Lib.hid (L9.out.later hb10); have C10 := Lib.hid (C9.out.later hb10); have P10 := Lib.hid (P9.out.later hb10); have Q10 := Lib.hid (Q9.out.later hb10); have S10 := Lib.hid hp3
      clear hb10 hp3 L9 C9 Z9 P9 Q9
      go_wp2_with fail
      have hbz : Below w10.heap.size w10 (w10.alloc (.cells (madeCells #[.slice none 0 0] i) 29)) := (Below.refl _ _).alloc (Nat.le_refl _) _
      refine (encode_any C i M0 F T (some ⟨w10.heap.size, 0, none⟩) i i (List.replicate i []) _ (C10.out.later hbz) (gr_zero w10 i (by unfold maxLen; omega)) R4.out).mono ?_; rintro e w11 ⟨hb11, hR⟩
      rcases hR with ⟨hno, _⟩ | ⟨_, p4, rfl, hp4⟩
      · rw [E4.out] at hno; cases hno
      have hbb := hbz.trans (hb11.mono hbz.size)
      have L11 := Lib.hid (L10.out.later hbb); have P11 := Lib.hid (P10.out.later hbb); have Q11 := Lib.hid (Q10.out.later hbb); have S11 := Lib.hid (S10.out.later hbb); have O11 := Lib.hid hp4
      clear hbz hb11 hbb hp4 L10 C10 P10 Q10 S10
      obtain ⟨wm, hwm⟩ : ∃ x, x = w11 := ⟨_, rfl⟩
      go_wp2_with fail
      go_loopw [25] (fun rv wr => ∃ r : Nat, r ≤ M0 ∧ rv = .int .i64 (r : Int) ∧ Below wm.heap.size wm wr) (fun rv _ => M0 - (intOf rv).toNat)
      case atStart => exact ⟨0, by omega, rfl, by rw [hwm]; exact Below.refl _ _⟩
      case round =>
        rw [← hwm] at L11 P11 Q11 S11 O11
        clear hwm
        obtain ⟨r, hr, rfl, hbr⟩ := hrel
        have Hbr := Lib.hid hbr; clear hbr
        by_cases hrt : r < M0
        · have hlin := shard_adds a b (D + 1) i (i + r) (by omega)
          have lp : (shard i (cutL a (D + 1) i) (i + r)).length = D + 1 := by rw [shard_w i _ (D + 1) _ (by omega) (cutL_length _ _ _) (cut_rows _ _ _), sumR_length]
          have lq : (shard i (cutL b (D + 1) i) (i + r)).length = D + 1 := by rw [shard_w i _ (D + 1) _ (by omega) (cutL_length _ _ _) (cut_rows _ _ _), sumR_length]
          have ls : (shard i (bothL a b (D + 1) i) (i + r)).length = D + 1 := by rw [shard_w i _ (D + 1) _ (by omega) (bothL_length _ _ _ _) (bothL_rows _ _ _ _), sumR_length]
          have lo : (shard i (List.replicate i []) (i + r)).length = 0 := by rw [shard_w i _ 0 _ (by omega) (List.length_replicate) (zero_rows i), sumR_length]
          obtain ⟨b1, o1, e1, hc1⟩ := (P11.out.later Hbr.out).at_ (by omega)
          injection e1 with e1; injection e1 with e1 e2
          subst e1; subst e2
          obtain ⟨Ap, cp, hcp, hsp⟩ := hc1 r _ (parL_get _ _ _ r hrt)
          obtain ⟨b2, o2, e1, hc2⟩ := (Q11.out.later Hbr.out).at_ (by omega)
          injection e1 with e1; injection e1 with e1 e2
          subst e1; subst e2
          obtain ⟨Aq, cq, hcq, hsq⟩ := hc2 r _ (parL_get _ _ _ r hrt)
          obtain ⟨b3, o3, e1, hc3⟩ := (S11.out.later Hbr.out).at_ (by omega)
          injection e1 with e1; injection e1 with e1 e2
          subst e1; subst e2
          obtain ⟨As, cs, hcs, hss⟩ := hc3 r _ (parL_get _ _ _ r hrt)
          obtain ⟨b4, o4, e1, hc4⟩ := (O11.out.later Hbr.out).at_ (by omega)
          injection e1 with e1; injection e1 with e1 e2
          subst e1; subst e2
          obtain ⟨Ao, co, hco, hso⟩ := hc4 r _ (parL_get _ _ _ r hrt)
          rw [lp] at hcp hsp
          rw [lq] at hcq hsq
          rw [ls] at hcs hss
          rw [lo] at hco
          rw [Nat.zero_add] at hcp hcq hcs hco
          obtain ⟨sp, hsp'⟩ : ∃ x, x = shard i (cutL a (D + 1) i) (i + r) := ⟨_, rfl⟩
          obtain ⟨sq, hsq'⟩ : ∃ x, x = shard i (cutL b (D + 1) i) (i + r) := ⟨_, rfl⟩
          obtain ⟨ss, hss'⟩ : ∃ x, x = shard i (bothL a b (D + 1) i) (i + r) := ⟨_, rfl⟩
          rw [← hsp', ← hsq', ← hss'] at hlin
          rw [← hsp'] at hsp
          rw [← hsq'] at hsq
          rw [← hss'] at hss
          have Hlin := Lib.hid hlin
          have HP := Lib.hid hcp; have HQ := Lib.hid hcq; have HS := Lib.hid hcs; have HO := Lib.hid hco
          have RP := Lib.hid hsp; have RQ := Lib.hid hsq; have RS := Lib.hid hss
          clear hlin hcp hcq hcs hco hsp hsq hss hso hc1 hc2 hc3 hc4 lp lq ls lo hsp' hsq' hss'
          go_upto_region 23 with (fail)
          refine wp_region_held_drew (S := fun w' => Fr (fun _ => False) wr.drew w') (by kernel_rfl) (Fr.refl _ _) (fun hHeld => ?_)
          clear hHeld
          refine wpAnyH_take (i := 0) (oi := ⟨some 174, _, _, _, _, _⟩) (v := ?vg0) rfl (by kernel_rfl) (by kernel_rfl) (by kernel_rfl) (fun _ _ _ h => h) (Or.inl ⟨by rfl, ?yg0⟩) (Fr.refl _ _) ?rg0
          case yg0 =>
            intro wq hSw
            (try dsimp only at hSw)
            first | (go_simp; done) | (go_simp; with_reducible rfl)
          try simp only [Act.put, List.setIfInBounds_toArray, List.set_cons_zero, List.set_cons_succ]
          refine wpAnyH_take (i := 1) (oi := ⟨some 175, _, _, _, _, _⟩) (v := ?vg1) rfl (by kernel_rfl) (by kernel_rfl) (by kernel_rfl) (fun _ _ _ h => h) (Or.inl ⟨by rfl, ?yg1⟩) (Fr.refl _ _) ?rg1
          case yg1 =>
            intro wq hSw
            (try dsimp only at hSw)
            first | (go_simp; done) | (go_simp; with_reducible rfl)
          try simp only [Act.put, List.setIfInBounds_toArray, List.set_cons_zero, List.set_cons_succ]
          refine wpAnyH_take (i := 2) (oi := ⟨some 176, _, _, _, _, _⟩) (v := ?vg2) rfl (by kernel_rfl) (by kernel_rfl) (by kernel_rfl) (fun _ _ _ h => h) (Or.inl ⟨by rfl, ?yg2⟩) (Fr.refl _ _) ?rg2
          case yg2 =>
            intro wq hSw
            (try dsimp only at hSw)
            first | (go_simp; done) | (go_simp; with_reducible rfl)
          try simp only [Act.put, List.setIfInBounds_toArray, List.set_cons_zero, List.set_cons_succ]
          refine wpAnyH_take (i := 3) (oi := ⟨some 177, _, _, _, _, _⟩) (v := ?vg3) rfl (by kernel_rfl) (by kernel_rfl) (by kernel_rfl) (fun _ _ _ h => h) (Or.inl ⟨by rfl, ?yg3⟩) (Fr.refl _ _) ?rg3
          case yg3 =>
            intro wq hSw
            (try dsimp only at hSw)
            have q0 := hSw.cell_some HP.out (fun h => h)
            first | (go_simp; done) | (go_simp; with_reducible rfl)
          try simp only [Act.put, List.setIfInBounds_toArray, List.set_cons_zero, List.set_cons_succ]
          refine wpAnyH_take (i := 4) (oi := ⟨some 178, _, _, _, _, _⟩) (v := ?vg4) rfl (by kernel_rfl) (by kernel_rfl) (by kernel_rfl) (fun _ _ _ h => h) (Or.inl ⟨by rfl, ?yg4⟩) (Fr.refl _ _) ?rg4
          case yg4 =>
            intro wq hSw
            (try dsimp only at hSw)
            first | (go_simp; done) | (go_simp; with_reducible rfl)
          try simp only [Act.put, List.setIfInBounds_toArray, List.set_cons_zero, List.set_cons_succ]
          refine wpAnyH_take (i := 5) (oi := ⟨some 179, _, _, _, _, _⟩) (v := ?vg5) rfl (by kernel_rfl) (by kernel_rfl) (by kernel_rfl) (fun _ _ _ h => h) (Or.inl ⟨by rfl, ?yg5⟩) (Fr.refl _ _) ?rg5
          case yg5 =>
            intro wq hSw
            (try dsimp only at hSw)
            first | (go_simp; done) | (go_simp; with_reducible rfl)
          try simp only [Act.put, List.setIfInBounds_toArray, List.set_cons_zero, List.set_cons_succ]
          refine wpAnyH_take (i := 6) (oi := ⟨some 180, _, _, _, _, _⟩) (v := ?vg6) rfl (by kernel_rfl) (by kernel_rfl) (by kernel_rfl) (fun _ _ _ h => h) (Or.inl ⟨by rfl, ?yg6⟩) (Fr.refl _ _) ?rg6
          case yg6 =>
            intro wq hSw
            (try dsimp only at hSw)
            first | (go_simp; done) | (go_simp; with_reducible rfl)
          try simp only [Act.put, List.setIfInBounds_toArray, List.set_cons_zero, List.set_cons_succ]
          refine wpAnyH_take (i := 7) (oi := ⟨some 181, _, _, _, _, _⟩) (v := ?vg7) rfl (by kernel_rfl) (by kernel_rfl) (by kernel_rfl) (fun _ _ _ h => h) (Or.inl ⟨by rfl, ?yg7⟩) (Fr.refl _ _) ?rg7
          case yg7 =>
            intro wq hSw
            (try dsimp only at hSw)
            have q0 := hSw.cell_some HQ.out (fun h => h)
            first | (go_simp; done) | (go_simp; with_reducible rfl)
          try simp only [Act.put, List.setIfInBounds_toArray, List.set_cons_zero, List.set_cons_succ]
          refine wpAnyH_take (i := 10) (oi := ⟨some 184, _, _, _, _, _⟩) (v := ?vg10) rfl (by kernel_rfl) (by kernel_rfl) (by kernel_rfl) (fun _ _ _ h => h) (Or.inl ⟨by rfl, ?yg10⟩) (Fr.refl _ _) ?rg10
          case yg10 =>
            intro wq hSw
            (try dsimp only at hSw)
            first | (go_simp; done) | (go_simp; with_reducible rfl)
          try simp only [Act.put, List.setIfInBounds_toArray, List.set_cons_zero, List.set_cons_succ]
          refine wpAnyH_take (i := 11) (oi := ⟨some 185, _, _, _, _, _⟩) (v := ?vg11) rfl (by kernel_rfl) (by kernel_rfl) (by kernel_rfl) (fun _ _ _ h => h) (Or.inl ⟨by rfl, ?yg11⟩) (Fr.refl _ _) ?rg11
          case yg11 =>
            intro wq hSw
            (try dsimp only at hSw)
            first | (go_simp; done) | (go_simp; with_reducible rfl)
          try simp only [Act.put, List.setIfInBounds_toArray, List.set_cons_zero, List.set_cons_succ]
          refine wpAnyH_take (i := 12) (oi := ⟨some 186, _, _, _, _, _⟩) (v := ?vg12) rfl (by kernel_rfl) (by kernel_rfl) (by kernel_rfl) (fun _ _ _ h => h) (Or.inl ⟨by rfl, ?yg12⟩) (Fr.refl _ _) ?rg12
          case yg12 =>
            intro wq hSw
            (try dsimp only at hSw)
            first | (go_simp; done) | (go_simp; with_reducible rfl)
          try simp only [Act.put, List.setIfInBounds_toArray, List.set_cons_zero, List.set_cons_succ]
          refine wpAnyH_take (i := 13) (oi := ⟨some 187, _, _, _, _, _⟩) (v := ?vg13) rfl (by kernel_rfl) (by kernel_rfl) (by kernel_rfl) (fun _ _ _ h => h) (Or.inl ⟨by rfl, ?yg13⟩) (Fr.refl _ _) ?rg13
          case yg13 =>
            intro wq hSw
            (try dsimp only at hSw)
            have q0 := hSw.cell_some HS.out (fun h => h)
            first | (go_simp; done) | (go_simp; with_reducible rfl)
          try simp only [Act.put, List.setIfInBounds_toArray, List.set_cons_zero, List.set_cons_succ]
          refine wpAnyH_take (i := 14) (oi := ⟨some 188, _, _, _, _, _⟩) (v := ?vg14) rfl (by kernel_rfl) (by kernel_rfl) (by kernel_rfl) (fun _ _ _ h => h) (Or.inl ⟨by rfl, ?yg14⟩) (Fr.refl _ _) ?rg14
          case yg14 =>
            intro wq hSw
            (try dsimp only at hSw)
            have kk := str_of (RS.out.drew.fr hSw (fun _ _ _ _ h => h))
            first | (go_simp; done) | (go_simp; with_reducible rfl)
          try simp only [Act.put, List.setIfInBounds_toArray, List.set_cons_zero, List.set_cons_succ]
          refine wpAnyH_ready (rs := [8]) (by kernel_rfl) (by simp) ?_
          refine AllReadyH.cons (o := ⟨some 182, _, _, _, _, _⟩) rfl (fun K hK => ?_) AllReadyH.nil
          go_simp
          have hh := added_any Ap (D + 1) cp sp Aq (D + 1) cq sq wr.drew (RP.out.below (Below.drew (Below.refl _ _)) (Nat.le_refl _)) (RQ.out.below (Below.drew (Below.refl _ _)) (Nat.le_refl _)) (by omega)
          rw [Hlin.out] at hh
          refine hh.mono ?_; clear hh; rintro e v2 ⟨Ac, nc, cc, rfl, hsc, hbN, _⟩
          have hfr : Fr (fun _ => False) wr.drew v2 := Fr.of_below hbN
          have Hsc := Lib.hid hsc
          have HB2 := Lib.hid (show Below wr.heap.size wr v2 from (Below.drew (Below.refl _ _)).trans hbN)
          clear hsc hbN
          go_wp2_with fail
          refine hK.out _ _ hfr (fun hHeld => ?_)
          clear hK K hHeld
          try simp only [Act.put, List.setIfInBounds_toArray, List.set_cons_zero, List.set_cons_succ]
          refine wpAnyH_re (S' := fun w' => Fr (fun _ => False) v2 w') (fun w' h => hfr.trans h) ?_
          clear hfr
          refine wpAnyH_take (i := 9) (oi := ⟨some 183, _, _, _, _, _⟩) (v := ?vg9) rfl (by kernel_rfl) (by kernel_rfl) (by kernel_rfl) (fun _ _ _ h => h) (Or.inl ⟨by rfl, ?yg9⟩) (Fr.refl _ _) ?rg9
          case yg9 =>
            intro wq hSw
            (try dsimp only at hSw)
            have kk := str_of (Hsc.out.fr hSw (fun _ _ _ _ h => h))
            first | (go_simp; done) | (go_simp; with_reducible rfl)
          try simp only [Act.put, List.setIfInBounds_toArray, List.set_cons_zero, List.set_cons_succ]
          refine wpAnyH_take (i := 15) (oi := ⟨some 189, _, _, _, _, _⟩) (v := ?vg15) rfl (by kernel_rfl) (by kernel_rfl) (by kernel_rfl) (fun _ _ _ h => h) (Or.inl ⟨by rfl, ?yg15⟩) (Fr.refl _ _) ?rg15
          case yg15 =>
            intro wq hSw
            (try dsimp only at hSw)
            first | (go_simp; done) | (go_simp; with_reducible rfl)
          try simp only [Act.put, List.setIfInBounds_toArray, List.set_cons_zero, List.set_cons_succ]
          refine wpAnyH_take (i := 16) (oi := ⟨some 190, _, _, _, _, _⟩) (v := ?vg16) rfl (by kernel_rfl) (by kernel_rfl) (by kernel_rfl) (fun _ _ _ h => h) (Or.inl ⟨by rfl, ?yg16⟩) (Fr.refl _ _) ?rg16
          case yg16 =>
            intro wq hSw
            (try dsimp only at hSw)
            first | (go_simp; done) | (go_simp; with_reducible rfl)
          try simp only [Act.put, List.setIfInBounds_toArray, List.set_cons_zero, List.set_cons_succ]
          refine wpAnyH_take (i := 17) (oi := ⟨some 191, _, _, _, _, _⟩) (v := ?vg17) rfl (by kernel_rfl) (by kernel_rfl) (by kernel_rfl) (fun _ _ _ h => h) (Or.inl ⟨by rfl, ?yg17⟩) (Fr.refl _ _) ?rg17
          case yg17 =>
            intro wq hSw
            (try dsimp only at hSw)
            first | (go_simp; done) | (go_simp; with_reducible rfl)
          try simp only [Act.put, List.setIfInBounds_toArray, List.set_cons_zero, List.set_cons_succ]
          refine wpAnyH_take (i := 18) (oi := ⟨some 192, _, _, _, _, _⟩) (v := ?vg18) rfl (by kernel_rfl) (by kernel_rfl) (by kernel_rfl) (fun _ _ _ h => h) (Or.inl ⟨by rfl, ?yg18⟩) (Fr.refl _ _) ?rg18
          case yg18 =>
            intro wq hSw
            (try dsimp only at hSw)
            first | (go_simp; done) | (go_simp; with_reducible rfl)
          try simp only [Act.put, List.setIfInBounds_toArray, List.set_cons_zero, List.set_cons_succ]
          refine wpAnyH_take (i := 19) (oi := ⟨some 193, _, _, _, _, _⟩) (v := ?vg19) rfl (by kernel_rfl) (by kernel_rfl) (by kernel_rfl) (fun _ _ _ h => h) (Or.inl ⟨by rfl, ?yg19⟩) (Fr.refl _ _) ?rg19
          case yg19 =>
            intro wq hSw
            (try dsimp only at hSw)
            first | (go_simp; done) | (go_simp; with_reducible rfl)
          try simp only [Act.put, List.setIfInBounds_toArray, List.set_cons_zero, List.set_cons_succ]
          refine wpAnyH_take (i := 20) (oi := ⟨some 194, _, _, _, _, _⟩) (v := ?vg20) rfl (by kernel_rfl) (by kernel_rfl) (by kernel_rfl) (fun _ _ _ h => h) (Or.inl ⟨by rfl, ?yg20⟩) (Fr.refl _ _) ?rg20
          case yg20 =>
            intro wq hSw
            (try dsimp only at hSw)
            have q0 := hSw.cell_some ((HB2.out.cell (World.block_lt_of_cell? _ _ HS.out)).trans HS.out) (fun h => h)
            first | (go_simp; done) | (go_simp; with_reducible rfl)
          try simp only [Act.put, List.setIfInBounds_toArray, List.set_cons_zero, List.set_cons_succ]
          refine wpAnyH_take (i := 21) (oi := ⟨some 195, _, _, _, _, _⟩) (v := ?vg21) rfl (by kernel_rfl) (by kernel_rfl) (by kernel_rfl) (fun _ _ _ h => h) (Or.inl ⟨by rfl, ?yg21⟩) (Fr.refl _ _) ?rg21
          case yg21 =>
            intro wq hSw
            (try dsimp only at hSw)
            first | (go_simp; done) | (go_simp; with_reducible rfl)
          try simp only [Act.put, List.setIfInBounds_toArray, List.set_cons_zero, List.set_cons_succ]
          refine wpAnyH_take (i := 22) (oi := ⟨some 196, _, _, _, _, _⟩) (v := ?vg22) rfl (by kernel_rfl) (by kernel_rfl) (by kernel_rfl) (fun _ _ _ h => h) (Or.inl ⟨by rfl, ?yg22⟩) (Fr.refl _ _) ?rg22
          case yg22 =>
            intro wq hSw
            (try dsimp only at hSw)
            first | (go_simp; done) | (go_simp; with_reducible rfl)
          try simp only [Act.put, List.setIfInBounds_toArray, List.set_cons_zero, List.set_cons_succ]
          refine wpAnyH_take (i := 23) (oi := ⟨some 197, _, _, _, _, _⟩) (v := ?vg23) rfl (by kernel_rfl) (by kernel_rfl) (by kernel_rfl) (fun _ _ _ h => h) (Or.inl ⟨by rfl, ?yg23⟩) (Fr.refl _ _) ?rg23
          case yg23 =>
            intro wq hSw
            (try dsimp only at hSw)
            first | (go_simp; done) | (go_simp; with_reducible rfl)
          try simp only [Act.put, List.setIfInBounds_toArray, List.set_cons_zero, List.set_cons_succ]
          refine wpAnyH_take (i := 24) (oi := ⟨some 198, _, _, _, _, _⟩) (v := ?vg24) rfl (by kernel_rfl) (by kernel_rfl) (by kernel_rfl) (fun _ _ _ h => h) (Or.inl ⟨by rfl, ?yg24⟩) (Fr.refl _ _) ?rg24
          case yg24 =>
            intro wq hSw
            (try dsimp only at hSw)
            first | (go_simp; done) | (go_simp; with_reducible rfl)
          try simp only [Act.put, List.setIfInBounds_toArray, List.set_cons_zero, List.set_cons_succ]
          refine wpAnyH_take (i := 25) (oi := ⟨some 199, _, _, _, _, _⟩) (v := ?vg25) rfl (by kernel_rfl) (by kernel_rfl) (by kernel_rfl) (fun _ _ _ h => h) (Or.inl ⟨by rfl, ?yg25⟩) (Fr.refl _ _) ?rg25
          case yg25 =>
            intro wq hSw
            (try dsimp only at hSw)
            first | (go_simp; done) | (go_simp; with_reducible rfl)
          try simp only [Act.put, List.setIfInBounds_toArray, List.set_cons_zero, List.set_cons_succ]
          refine wpAnyH_take (i := 26) (oi := ⟨some 200, _, _, _, _, _⟩) (v := ?vg26) rfl (by kernel_rfl) (by kernel_rfl) (by kernel_rfl) (fun _ _ _ h => h) (Or.inl ⟨by rfl, ?yg26⟩) (Fr.refl _ _) ?rg26
          case yg26 =>
            intro wq hSw
            (try dsimp only at hSw)
            first | (go_simp; done) | (go_simp; with_reducible rfl)
          try simp only [Act.put, List.setIfInBounds_toArray, List.set_cons_zero, List.set_cons_succ]
          refine wpAnyH_take (i := 27) (oi := ⟨some 201, _, _, _, _, _⟩) (v := ?vg27) rfl (by kernel_rfl) (by kernel_rfl) (by kernel_rfl) (fun _ _ _ h => h) (Or.inl ⟨by rfl, ?yg27⟩) (Fr.refl _ _) ?rg27
          case yg27 =>
            intro wq hSw
            (try dsimp only at hSw)
            first | (go_simp; done) | (go_simp; with_reducible rfl)
          try simp only [Act.put, List.setIfInBounds_toArray, List.set_cons_zero, List.set_cons_succ]
          refine wpAnyH_take (i := 28) (oi := ⟨some 202, _, _, _, _, _⟩) (v := ?vg28) rfl (by kernel_rfl) (by kernel_rfl) (by kernel_rfl) (fun _ _ _ h => h) (Or.inl ⟨by rfl, ?yg28⟩) (Fr.refl _ _) ?rg28
          case yg28 =>
            intro wq hSw
            (try dsimp only at hSw)
            first | (go_simp; done) | (go_simp; with_reducible rfl)
          try simp only [Act.put, List.setIfInBounds_toArray, List.set_cons_zero, List.set_cons_succ]
          refine wpAnyH_take (i := 29) (oi := ⟨some 203, _, _, _, _, _⟩) (v := ?vg29) rfl (by kernel_rfl) (by kernel_rfl) (by kernel_rfl) (fun _ _ _ h => h) (Or.inl ⟨by rfl, ?yg29⟩) (Fr.refl _ _) ?rg29
          case yg29 =>
            intro wq hSw
            (try dsimp only at hSw)
            have q0 := hSw.cell_some ((HB2.out.cell (World.block_lt_of_cell? _ _ HO.out)).trans HO.out) (fun h => h)
            first | (go_simp; done) | (go_simp; with_reducible rfl)
          try simp only [Act.put, List.setIfInBounds_toArray, List.set_cons_zero, List.set_cons_succ]
          refine wpAnyH_take (i := 30) (oi := ⟨some 204, _, _, _, _, _⟩) (v := ?vg30) rfl (by kernel_rfl) (by kernel_rfl) (by kernel_rfl) (fun _ _ _ h => h) (Or.inl ⟨by rfl, ?yg30⟩) (Fr.refl _ _) ?rg30
          case yg30 =>
            intro wq hSw
            (try dsimp only at hSw)
            first | (go_simp; done) | (go_simp; with_reducible rfl)
          try simp only [Act.put, List.setIfInBounds_toArray, List.set_cons_zero, List.set_cons_succ]
          refine wpAnyH_take (i := 31) (oi := ⟨some 205, _, _, _, _, _⟩) (v := ?vg31) rfl (by kernel_rfl) (by kernel_rfl) (by kernel_rfl) (fun _ _ _ h => h) (Or.inl ⟨by rfl, ?yg31⟩) (Fr.refl _ _) ?rg31
          case yg31 =>
            intro wq hSw
            (try dsimp only at hSw)
            first | (go_simp; done) | (go_simp; with_reducible rfl)
          try simp only [Act.put, List.setIfInBounds_toArray, List.set_cons_zero, List.set_cons_succ]
          refine wpAnyH_take (i := 32) (oi := ⟨some 206, _, _, _, _, _⟩) (v := ?vg32) rfl (by kernel_rfl) (by kernel_rfl) (by kernel_rfl) (fun _ _ _ h => h) (Or.inl ⟨by rfl, ?yg32⟩) (Fr.refl _ _) ?rg32
          case yg32 =>
            intro wq hSw
            (try dsimp only at hSw)
            first | (go_simp; done) | (go_simp; with_reducible rfl)
          try simp only [Act.put, List.setIfInBounds_toArray, List.set_cons_zero, List.set_cons_succ]
          refine wpAnyH_done (by kernel_rfl) ?_ _
          have HBr2 := Lib.hid (Hbr.out.trans (HB2.out.mono Hbr.out.size))
          go_wp2_with fail
          go_roundw
          case rel => exact ⟨r + 1, by omega, by go_num, HBr2.out⟩
          case measure => simp [intOf]; omega
        · obtain rfl : r = M0 := by omega
          have LE := Lib.hid (L11.out.later Hbr.out)
          go_wp2_with fail
          refine (codes_any _).mono ?_; rintro e wz ⟨rfl, hbz⟩
          have LZ := Lib.hid (LE.out.later hbz)
          clear hbz
          go_wp2_with fail
          go_ret
          exact ⟨rfl, LZ.out.bel⟩
end Go.Proofs.Ytgnkgogdkplcoaa
