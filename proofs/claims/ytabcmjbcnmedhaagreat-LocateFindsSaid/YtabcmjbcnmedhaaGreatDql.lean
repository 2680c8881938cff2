/-
  The statements' own example of layer 8 ('finds') answers true. No condition. (Written by gen_dql.py.)
-/
import Derived.Test.YtabcmjbcnmedhaaGreatDqk
namespace Go.Proofs.YtabcmjbcnmedhaaGreat
open Go.RowKit Go.Proofs
set_option linter.unusedVariables false

theorem ex8_par : [[5]] ++ parL 1 [[5]] 2 = [[5], [5], [140]] := by decide +kernel
theorem ex8_ok : okF 1 2 [[5], [7], [140]] 1 = true := by decide +kernel
theorem ex8_ok0 : okF 1 2 [[5], [7], [139]] 0 = true := by decide +kernel
theorem ex8_dif : difL [[5], [7], [140]] [[5], [5], [140]] 3 = [1] := by decide +kernel
theorem ex8_lev : Lev 1 1 [[5]] := ⟨rfl, fun i hi => by obtain rfl : i = 0 := by omega
                                                        rfl⟩
theorem ex8_near : (offs 1 2 [[5], [7], [140]] [[5]] : Int) = 1 := by rw [offs, ex8_par, show 1 + 2 = 3 from rfl, ex8_dif]; rfl
theorem ex8_one {ds : List (List UInt8)} (hd : Lev 1 (([[5], [7], [140]] : List (List UInt8)).getD 0 []).length ds) (h : (offs 1 2 [[5], [7], [140]] ds : Int) ≤ 1) : ds = [[5]] := by
  have hd : Lev 1 1 ds := hd
  refine hd.once (m := 2) ex8_lev (by decide) (bad := [[5], [7], [140]]) (t := 1) rfl (by decide) ?_ ?_
  · rw [difL_comm]
    have : offs 1 2 [[5], [7], [140]] ds ≤ 1 := by omega
    exact this
  · rw [difL_comm]
    have : (offs 1 2 [[5], [7], [140]] [[5]] : Int) ≤ 1 := by rw [ex8_near]; decide
    have : offs 1 2 [[5], [7], [140]] [[5]] ≤ 1 := by omega
    exact this
theorem ex8_no (ds : List (List UInt8)) (hd : Lev 1 (([[5], [7], [139]] : List (List UInt8)).getD 0 []).length ds) : ¬ (offs 1 2 [[5], [7], [139]] ds : Int) ≤ 0 := by
  intro h
  have hd : Lev 1 1 ds := hd
  have h0 : difL [[5], [7], [139]] (ds ++ parL 1 ds 2) 3 = [] := List.eq_nil_of_length_eq_zero (by
    have : (difL [[5], [7], [139]] (ds ++ parL 1 ds 2) (1 + 2)).length ≤ 0 := by
      have : offs 1 2 [[5], [7], [139]] ds ≤ 0 := by omega
      exact this
    exact Nat.le_zero.1 this)
  have hu : ∀ i, i < 3 → ([[5], [7], [139]] : List (List UInt8)).getD i [] = shard 1 ds i := fun i hi => by
    have hf : unlB [[5], [7], [139]] (ds ++ parL 1 ds 2) i = false := by
      cases hq : unlB [[5], [7], [139]] (ds ++ parL 1 ds 2) i
      · rfl
      · have : i ∈ difL [[5], [7], [139]] (ds ++ parL 1 ds 2) 3 := List.mem_filter.2 ⟨List.mem_range.2 hi, hq⟩
        rw [h0] at this
        cases this
    rw [(unlB_no hf).2.2, hd.all_at i hi]
  have e0 := hu 0 (by decide)
  rw [shard_data 1 ds 0 (by decide) hd.len hd.level] at e0
  have hds : ds = [[5]] := by
    match ds, hd.len with
    | [x], _ =>
      have e0 : [5] = x := e0
      rw [← e0]
  have e1 := hu 1 (by decide)
  rw [hds] at e1
  exact absurd e1 (by decide +kernel)

set_option maxRecDepth 100000 in
set_option maxHeartbeats 6400000 in
theorem finds8_any (w : World) : Calls Tryz.prog 8 #[] w (SaysTrue w) := by
  have x2 : bits .xor .u8 5 2 = 7 := by decide
  have x7 : bits .xor .u8 140 7 = 139 := by decide
  have X2 := Lib.hid x2
  have X7 := Lib.hid x7
  clear x2 x7
  go_enter Tryz.func8, Tryz.ntmps8
  go_wp2_with fail
  refine (new_any _).mono ?_; rintro e w1 ⟨rfl, hf, hb⟩
  obtain ⟨F, hF⟩ : ∃ F, F = w.heap.size + 1 := ⟨_, rfl⟩
  obtain ⟨T, hT⟩ : ∃ T, T = w.heap.size := ⟨_, rfl⟩
  rw [← hF] at hf ⊢
  rw [← hT] at hf
  have HT := Lib.hid (show w.heap.size ≤ T by omega)
  clear hF hT
  go_wp2_with fail
  refine (cnew_at F T 1 2 1 2 rfl rfl (by omega) _ hf).mono ?_; rintro e w2 ⟨C, rfl, hC, hr⟩
  have L2 := Lib.hid (Lw.of hb HT.out hr hC.fld)
  have HC2 := Lib.hid hC
  clear hf hb hC hr
  go_wp2_with fail
  have hb3 : Below w2.heap.size w2 ((w2.alloc (.cells #[.int .u8 5] 5)).alloc (.cells #[.slice (some ⟨w2.heap.size, 0, none⟩) 1 1] 30)) := ((Below.refl _ _).alloc (Nat.le_refl _) _).alloc (by simp) _
  refine (all_any C 1 2 F T (some ⟨w2.heap.size + 1, 0, none⟩) 1 1 [[5]] _ (HC2.out.later hb3) (gr_lit1 w2 #[.int .u8 5] [5] rfl (by decide)) (by decide)).mono ?_
  rintro e w4 ⟨hb4, hR⟩
  rw [ex8_par] at hR
  rcases hR with ⟨hno, _⟩ | ⟨_, A4, c4, rfl, hp⟩
  · exact absurd hno (by decide)
  have hb4' := hb3.trans (hb4.mono hb3.size)
  have L4 := Lib.hid (L2.out.later hb4')
  have HC4 := Lib.hid (HC2.out.later hb4')
  have HP4 := Lib.hid (show Gr w4 A4 3 c4 [[5], [5], [140]] from hp)
  clear hb3 hb4 hb4' hp L2 HC2
  obtain ⟨b, o, rfl, hc⟩ := HP4.out.at_ (by decide)
  obtain ⟨A0, c0, hc0, hs0⟩ := hc 0 [5] rfl
  obtain ⟨A1, c1, hc1, hs1⟩ := hc 1 [5] rfl
  obtain ⟨A2, c2, hc2, hs2⟩ := hc 2 [140] rfl
  rw [Nat.add_zero] at hc0
  obtain ⟨b1, o1, rfl, hk1⟩ := hs1.at_ (k := 0) (by decide)
  obtain ⟨b2, o2, rfl, hk2⟩ := hs2.at_ (k := 0) (by decide)
  have C0 := Lib.hid (show w4.cell? ⟨b, o, none⟩ = some (.slice A0 1 c0) from hc0)
  have C1 := Lib.hid (show w4.cell? ⟨b, o + 1, none⟩ = some (.slice (some ⟨b1, o1, none⟩) 1 c1) from hc1)
  have C2 := Lib.hid (show w4.cell? ⟨b, o + 2, none⟩ = some (.slice (some ⟨b2, o2, none⟩) 1 c2) from hc2)
  have B1 := Lib.hid (show w4.cell? ⟨b1, o1, none⟩ = some (.int .u8 5) by have := hk1 0 (.int .u8 5) rfl; rwa [Nat.add_zero] at this)
  have B2 := Lib.hid (show w4.cell? ⟨b2, o2, none⟩ = some (.int .u8 140) by have := hk2 0 (.int .u8 140) rfl; rwa [Nat.add_zero] at this)
  have S0 := Lib.hid (show Sl w4 1 A0 1 c0 (cells [5]) from hs0)
  obtain ⟨A2, hA2⟩ : ∃ x : Option Addr, x = some ⟨b2, o2, none⟩ := ⟨_, rfl⟩
  rw [← hA2] at hs2 C2
  have HA2 := Lib.hid hA2
  have S2 := Lib.hid (show Sl w4 1 A2 1 c2 (cells [140]) from hs2)
  clear hc hc0 hc1 hc2 hs0 hs1 hs2 hk1 hk2 hA2
  go_upto_region 5 with (fail)
  have x2 := X2.out
  refine wp_region_held_drew (S := fun w' => Fr (fun _ => False) w4 w') (by kernel_rfl) (Fr.drew (Fr.refl _ _)) (fun hHeld => ?_)
  clear hHeld
  have hHeld : Fr (fun _ => False) w4 w4.drew := Fr.drew (Fr.refl _ _)
  have hz_0 : w4.heap.size ≤ w4.drew.heap.size := Nat.le_refl _
  obtain ⟨v_1, hw⟩ : ∃ v_1, v_1 = w4.drew := ⟨_, rfl⟩
  rw [← hw] at hHeld hz_0  ⊢
  clear hw
  refine wpAnyH_take (i := 0) (oi := ⟨some 27, _, _, _, _, _⟩) (v := ?vg0_2) rfl (by kernel_rfl) (by kernel_rfl) (by kernel_rfl) (fun _ _ _ h => h) (Or.inl ⟨by rfl, ?yg0_2⟩) hHeld ?rg0_2
  case yg0_2 =>
    intro wq hSw
    (try dsimp only at hSw)
    first | (go_simp; done) | (go_simp; with_reducible rfl)
  try simp only [Act.put, List.setIfInBounds_toArray, List.set_cons_zero, List.set_cons_succ]
  refine wpAnyH_take (i := 1) (oi := ⟨some 28, _, _, _, _, _⟩) (v := ?vg1_3) rfl (by kernel_rfl) (by kernel_rfl) (by kernel_rfl) (fun _ _ _ h => h) (Or.inl ⟨by rfl, ?yg1_3⟩) hHeld ?rg1_3
  case yg1_3 =>
    intro wq hSw
    (try dsimp only at hSw)
    first | (go_simp; done) | (go_simp; with_reducible rfl)
  try simp only [Act.put, List.setIfInBounds_toArray, List.set_cons_zero, List.set_cons_succ]
  refine wpAnyH_take (i := 2) (oi := ⟨some 29, _, _, _, _, _⟩) (v := ?vg2_4) rfl (by kernel_rfl) (by kernel_rfl) (by kernel_rfl) (fun _ _ _ h => h) (Or.inl ⟨by rfl, ?yg2_4⟩) hHeld ?rg2_4
  case yg2_4 =>
    intro wq hSw
    (try dsimp only at hSw)
    have q0 := hSw.cell_some C0.out (fun h => h)
    first | (go_simp; done) | (go_simp; with_reducible rfl)
  try simp only [Act.put, List.setIfInBounds_toArray, List.set_cons_zero, List.set_cons_succ]
  refine wpAnyH_take (i := 3) (oi := ⟨some 30, _, _, _, _, _⟩) (v := ?vg3_5) rfl (by kernel_rfl) (by kernel_rfl) (by kernel_rfl) (fun _ _ _ h => h) (Or.inl ⟨by rfl, ?yg3_5⟩) hHeld ?rg3_5
  case yg3_5 =>
    intro wq hSw
    (try dsimp only at hSw)
    first | (go_simp; done) | (go_simp; with_reducible rfl)
  try simp only [Act.put, List.setIfInBounds_toArray, List.set_cons_zero, List.set_cons_succ]
  refine wpAnyH_take (i := 4) (oi := ⟨some 31, _, _, _, _, _⟩) (v := ?vg4_6) rfl (by kernel_rfl) (by kernel_rfl) (by kernel_rfl) (fun _ _ _ h => h) (Or.inl ⟨by rfl, ?yg4_6⟩) hHeld ?rg4_6
  case yg4_6 =>
    intro wq hSw
    (try dsimp only at hSw)
    first | (go_simp; done) | (go_simp; with_reducible rfl)
  try simp only [Act.put, List.setIfInBounds_toArray, List.set_cons_zero, List.set_cons_succ]
  refine wpAnyH_take (i := 5) (oi := ⟨some 32, _, _, _, _, _⟩) (v := ?vg5_7) rfl (by kernel_rfl) (by kernel_rfl) (by kernel_rfl) (fun _ _ _ h => h) (Or.inl ⟨by rfl, ?yg5_7⟩) hHeld ?rg5_7
  case yg5_7 =>
    intro wq hSw
    (try dsimp only at hSw)
    have q0 := hSw.cell_some C1.out (fun h => h)
    first | (go_simp; done) | (go_simp; with_reducible rfl)
  try simp only [Act.put, List.setIfInBounds_toArray, List.set_cons_zero, List.set_cons_succ]
  refine wpAnyH_take (i := 6) (oi := ⟨some 33, _, _, _, _, _⟩) (v := ?vg6_8) rfl (by kernel_rfl) (by kernel_rfl) (by kernel_rfl) (fun _ _ _ h => h) (Or.inl ⟨by rfl, ?yg6_8⟩) hHeld ?rg6_8
  case yg6_8 =>
    intro wq hSw
    (try dsimp only at hSw)
    first | (go_simp; done) | (go_simp; with_reducible rfl)
  try simp only [Act.put, List.setIfInBounds_toArray, List.set_cons_zero, List.set_cons_succ]
  refine wpAnyH_take (i := 7) (oi := ⟨some 34, _, _, _, _, _⟩) (v := ?vg7_9) rfl (by kernel_rfl) (by kernel_rfl) (by kernel_rfl) (fun _ _ _ h => h) (Or.inl ⟨by rfl, ?yg7_9⟩) hHeld ?rg7_9
  case yg7_9 =>
    intro wq hSw
    (try dsimp only at hSw)
    have q0 := hSw.cell_some B1.out (fun h => h)
    first | (go_simp; done) | (go_simp; with_reducible rfl)
  try simp only [Act.put, List.setIfInBounds_toArray, List.set_cons_zero, List.set_cons_succ]
  refine wpAnyH_take (i := 8) (oi := ⟨some 35, _, _, _, _, _⟩) (v := ?vg8_10) rfl (by kernel_rfl) (by kernel_rfl) (by kernel_rfl) (fun _ _ _ h => h) (Or.inl ⟨by rfl, ?yg8_10⟩) hHeld ?rg8_10
  case yg8_10 =>
    intro wq hSw
    (try dsimp only at hSw)
    first | (go_simp; done) | (go_simp; with_reducible rfl)
  try simp only [Act.put, List.setIfInBounds_toArray, List.set_cons_zero, List.set_cons_succ]
  refine wpAnyH_take (i := 10) (oi := ⟨some 37, _, _, _, _, _⟩) (v := ?vg10_11) rfl (by kernel_rfl) (by kernel_rfl) (by kernel_rfl) (fun _ _ _ h => h) (Or.inl ⟨by rfl, ?yg10_11⟩) hHeld ?rg10_11
  case yg10_11 =>
    intro wq hSw
    (try dsimp only at hSw)
    first | (go_simp; done) | (go_simp; with_reducible rfl)
  try simp only [Act.put, List.setIfInBounds_toArray, List.set_cons_zero, List.set_cons_succ]
  refine wpAnyH_take (i := 11) (oi := ⟨some 38, _, _, _, _, _⟩) (v := ?vg11_12) rfl (by kernel_rfl) (by kernel_rfl) (by kernel_rfl) (fun _ _ _ h => h) (Or.inl ⟨by rfl, ?yg11_12⟩) hHeld ?rg11_12
  case yg11_12 =>
    intro wq hSw
    (try dsimp only at hSw)
    first | (go_simp; done) | (go_simp; with_reducible rfl)
  try simp only [Act.put, List.setIfInBounds_toArray, List.set_cons_zero, List.set_cons_succ]
  refine wpAnyH_take (i := 12) (oi := ⟨some 39, _, _, _, _, _⟩) (v := ?vg12_13) rfl (by kernel_rfl) (by kernel_rfl) (by kernel_rfl) (fun _ _ _ h => h) (Or.inl ⟨by rfl, ?yg12_13⟩) hHeld ?rg12_13
  case yg12_13 =>
    intro wq hSw
    (try dsimp only at hSw)
    have q0 := hSw.cell_some C2.out (fun h => h)
    first | (go_simp; done) | (go_simp; with_reducible rfl)
  try simp only [Act.put, List.setIfInBounds_toArray, List.set_cons_zero, List.set_cons_succ]
  refine wpAnyH_ready (rs := [9]) (by kernel_rfl) (by simp) ?_
  refine AllReadyH.cons (o := ⟨some 36, _, _, _, _, _⟩) rfl (fun K hK => ?_) (AllReadyH.nil)
  go_simp
  have hbN : Below v_1.heap.size v_1 (v_1.alloc (.cells #[.int .u8 7] 5)) := (Below.refl _ _).alloc (Nat.le_refl _) _
  have hxN := heap_alloc_new v_1 (.cells #[.int .u8 7] 5)
  obtain ⟨g7, hg7⟩ : ∃ x, x = v_1.heap.size := ⟨_, rfl⟩
  obtain ⟨v_14, hw⟩ : ∃ x, x = v_1.alloc (.cells #[.int .u8 7] 5) := ⟨_, rfl⟩
  rw [← hw] at hbN hxN ⊢
  rw [← hg7] at hxN ⊢
  have hfN : Fr (fun _ => False) v_1 v_14 := Fr.of_below hbN
  have Sg7 := Lib.hid (sl_blk (l := [7]) hxN rfl (by decide))
  clear hw hxN hg7
  clear hbN
  have hHeld := hHeld.trans hfN
  have hz_15 := hfN.size
  refine hK.out _ _ hHeld (fun _ => ?_)
  clear hK K hfN
  try simp only [Act.put, List.setIfInBounds_toArray, List.set_cons_zero, List.set_cons_succ]
  refine wpAnyH_ready (rs := [13]) (by kernel_rfl) (by simp) ?_
  refine AllReadyH.cons (o := ⟨some 40, _, _, _, _, _⟩) rfl (fun K hK => ?_) (AllReadyH.nil)
  go_simp
  have hbN : Below v_14.heap.size v_14 (v_14.alloc (.cells #[.slice A0 1 c0, .slice (some ⟨g7, 0, none⟩) 1 1, .slice A2 1 c2] 30)) := (Below.refl _ _).alloc (Nat.le_refl _) _
  have hxN := heap_alloc_new v_14 (.cells #[.slice A0 1 c0, .slice (some ⟨g7, 0, none⟩) 1 1, .slice A2 1 c2] 30)
  obtain ⟨gx, hgx⟩ : ∃ x, x = v_14.heap.size := ⟨_, rfl⟩
  obtain ⟨v_16, hw⟩ : ∃ x, x = v_14.alloc (.cells #[.slice A0 1 c0, .slice (some ⟨g7, 0, none⟩) 1 1, .slice A2 1 c2] 30) := ⟨_, rfl⟩
  rw [← hw] at hbN hxN ⊢
  rw [← hgx] at hxN ⊢
  have hfN : Fr (fun _ => False) v_14 v_16 := Fr.of_below hbN
  have hbq := (hHeld.belowAll (fun _ h => h.elim)).trans (hbN.mono hHeld.size)
  have Ggx := Lib.hid (gr_lit3 hxN (S0.out.below hbq (Nat.le_refl _)) (Sg7.out.below hbN (Nat.le_refl _)) (S2.out.below hbq (Nat.le_refl _)))
  clear Sg7
  clear hw hxN hgx hbq
  clear hbN
  have hHeld := hHeld.trans hfN
  have hz_17 := hfN.size
  refine hK.out _ _ hHeld (fun _ => ?_)
  clear hK K hfN
  try simp only [Act.put, List.setIfInBounds_toArray, List.set_cons_zero, List.set_cons_succ]
  refine wpAnyH_take (i := 14) (oi := ⟨some 4, _, _, _, _, _⟩) (v := ?vg14_18) rfl (by kernel_rfl) (by kernel_rfl) (by kernel_rfl) (fun _ _ _ h => h) (Or.inl ⟨by rfl, ?yg14_18⟩) hHeld ?rg14_18
  case yg14_18 =>
    intro wq hSw
    (try dsimp only at hSw)
    first | (go_simp; done) | (go_simp; with_reducible rfl)
  try simp only [Act.put, List.setIfInBounds_toArray, List.set_cons_zero, List.set_cons_succ]
  refine wpAnyH_done (by kernel_rfl) ?_ _
  have Hb5 := Lib.hid (hHeld.belowAll (fun _ h => h.elim))
  clear hHeld
  obtain ⟨w5, hw5⟩ : ∃ x, x = v_16 := ⟨_, rfl⟩
  rw [← hw5] at Hb5 Ggx ⊢
  clear hw5
  clear x2
  have hA2 := HA2.out
  subst hA2
  have hw5 := Hb5.out.size
  have L5 := Lib.hid (L4.out.later Hb5.out)
  have HC5 := Lib.hid (HC4.out.later Hb5.out)
  have HP5 := Lib.hid (HP4.out.later Hb5.out)
  go_wp2_with fail
  have hh := find_any C 1 2 F T (some ⟨gx, 0, none⟩) 3 3 [[5], [7], [140]] 1 (by omega) (by omega) w5 HC5.out Ggx.out (by decide)
  refine hh.mono ?_; clear hh; rintro e w6 ⟨hR, hb6⟩
  rcases hR with ⟨hno, _⟩ | ⟨_, ⟨X1, xc1, X2', xq, xc2, dn, rfl, hX, hl, hd, hle⟩ | ⟨_, hno⟩⟩
  · rw [ex8_ok] at hno; cases hno
  rotate_left
  · exact absurd (by rw [ex8_near]; decide) (hno [[5]] ex8_lev)
  rw [ex8_one hd hle, ex8_par] at hX hl
  have hl : Sl w6 1 X2' xq xc2 (ncells [1]) := by rw [show 1 + 2 = 3 from rfl, ex8_dif] at hl; exact hl
  have hxq := hl.len
  have hxq : xq = 1 := by rw [ncells_length] at hxq; simpa using hxq.symm
  subst hxq
  have hb46 := Hb5.out.trans (hb6.mono hw5)
  have L6 := Lib.hid (L5.out.later hb6)
  have HC6 := Lib.hid (HC5.out.later hb6)
  have HP6 := Lib.hid (HP5.out.later hb6)
  have Gb6 := Lib.hid (Ggx.out.later hb6)
  have HX6 := Lib.hid (show Gr w6 X1 3 xc1 [[5], [5], [140]] from hX)
  have HL6 := Lib.hid hl
  have f46 : Fr (fun _ => False) w4 w6 := Fr.of_below hb46
  have C06 := Lib.hid (f46.cell_some C0.out (fun h => h))
  have C26 := Lib.hid (f46.cell_some C2.out (fun h => h))
  have B26 := Lib.hid (f46.cell_some B2.out (fun h => h))
  have S06 := Lib.hid (S0.out.below hb46 (Nat.le_refl _))
  obtain ⟨bg, og, eg, hcg⟩ := Gb6.out.at_ (by decide)
  injection eg with eg
  injection eg with eg1 eg2
  obtain ⟨A7, c7, hc7, hs7⟩ := hcg 1 [7] rfl
  rw [← eg1, ← eg2] at hc7
  have D16 := Lib.hid (show w6.cell? ⟨gx, 1, none⟩ = some (.slice A7 1 c7) from hc7)
  have S76 := Lib.hid (show Sl w6 1 A7 1 c7 (cells [7]) from hs7)
  clear hX hl hd hle hb6 hb46 f46 hcg eg1 eg2 hc7 hs7 hw5 Hb5 L4 HC4 HP4 C0 C1 C2 B1 B2 S0 S2 L5 HC5 HP5 Ggx HA2
  go_upto_region 7 with (fail)
  have x7 := X7.out
  refine wp_region_held_drew (S := fun w' => Fr (fun _ => False) w6 w') (by kernel_rfl) (Fr.drew (Fr.refl _ _)) (fun hHeld => ?_)
  clear hHeld
  have hHeld : Fr (fun _ => False) w6 w6.drew := Fr.drew (Fr.refl _ _)
  have hz_0 : w6.heap.size ≤ w6.drew.heap.size := Nat.le_refl _
  obtain ⟨v_501, hw⟩ : ∃ v_501, v_501 = w6.drew := ⟨_, rfl⟩
  rw [← hw] at hHeld hz_0  ⊢
  clear hw
  refine wpAnyH_take (i := 0) (oi := ⟨some 49, _, _, _, _, _⟩) (v := ?vg0_502) rfl (by kernel_rfl) (by kernel_rfl) (by kernel_rfl) (fun _ _ _ h => h) (Or.inl ⟨by rfl, ?yg0_502⟩) hHeld ?rg0_502
  case yg0_502 =>
    intro wq hSw
    (try dsimp only at hSw)
    first | (go_simp; done) | (go_simp; with_reducible rfl)
  try simp only [Act.put, List.setIfInBounds_toArray, List.set_cons_zero, List.set_cons_succ]
  refine wpAnyH_take (i := 1) (oi := ⟨some 50, _, _, _, _, _⟩) (v := ?vg1_503) rfl (by kernel_rfl) (by kernel_rfl) (by kernel_rfl) (fun _ _ _ h => h) (Or.inl ⟨by rfl, ?yg1_503⟩) hHeld ?rg1_503
  case yg1_503 =>
    intro wq hSw
    (try dsimp only at hSw)
    first | (go_simp; done) | (go_simp; with_reducible rfl)
  try simp only [Act.put, List.setIfInBounds_toArray, List.set_cons_zero, List.set_cons_succ]
  refine wpAnyH_take (i := 2) (oi := ⟨some 51, _, _, _, _, _⟩) (v := ?vg2_504) rfl (by kernel_rfl) (by kernel_rfl) (by kernel_rfl) (fun _ _ _ h => h) (Or.inl ⟨by rfl, ?yg2_504⟩) hHeld ?rg2_504
  case yg2_504 =>
    intro wq hSw
    (try dsimp only at hSw)
    first | (go_simp; done) | (go_simp; with_reducible rfl)
  try simp only [Act.put, List.setIfInBounds_toArray, List.set_cons_zero, List.set_cons_succ]
  refine wpAnyH_take (i := 3) (oi := ⟨some 52, _, _, _, _, _⟩) (v := ?vg3_505) rfl (by kernel_rfl) (by kernel_rfl) (by kernel_rfl) (fun _ _ _ h => h) (Or.inl ⟨by rfl, ?yg3_505⟩) hHeld ?rg3_505
  case yg3_505 =>
    intro wq hSw
    (try dsimp only at hSw)
    have q0 := hSw.cell_some C06.out (fun h => h)
    first | (go_simp; done) | (go_simp; with_reducible rfl)
  try simp only [Act.put, List.setIfInBounds_toArray, List.set_cons_zero, List.set_cons_succ]
  refine wpAnyH_take (i := 4) (oi := ⟨some 53, _, _, _, _, _⟩) (v := ?vg4_506) rfl (by kernel_rfl) (by kernel_rfl) (by kernel_rfl) (fun _ _ _ h => h) (Or.inl ⟨by rfl, ?yg4_506⟩) hHeld ?rg4_506
  case yg4_506 =>
    intro wq hSw
    (try dsimp only at hSw)
    first | (go_simp; done) | (go_simp; with_reducible rfl)
  try simp only [Act.put, List.setIfInBounds_toArray, List.set_cons_zero, List.set_cons_succ]
  refine wpAnyH_take (i := 5) (oi := ⟨some 54, _, _, _, _, _⟩) (v := ?vg5_507) rfl (by kernel_rfl) (by kernel_rfl) (by kernel_rfl) (fun _ _ _ h => h) (Or.inl ⟨by rfl, ?yg5_507⟩) hHeld ?rg5_507
  case yg5_507 =>
    intro wq hSw
    (try dsimp only at hSw)
    first | (go_simp; done) | (go_simp; with_reducible rfl)
  try simp only [Act.put, List.setIfInBounds_toArray, List.set_cons_zero, List.set_cons_succ]
  refine wpAnyH_take (i := 6) (oi := ⟨some 55, _, _, _, _, _⟩) (v := ?vg6_508) rfl (by kernel_rfl) (by kernel_rfl) (by kernel_rfl) (fun _ _ _ h => h) (Or.inl ⟨by rfl, ?yg6_508⟩) hHeld ?rg6_508
  case yg6_508 =>
    intro wq hSw
    (try dsimp only at hSw)
    have q0 := hSw.cell_some D16.out (fun h => h)
    first | (go_simp; done) | (go_simp; with_reducible rfl)
  try simp only [Act.put, List.setIfInBounds_toArray, List.set_cons_zero, List.set_cons_succ]
  refine wpAnyH_take (i := 7) (oi := ⟨some 56, _, _, _, _, _⟩) (v := ?vg7_509) rfl (by kernel_rfl) (by kernel_rfl) (by kernel_rfl) (fun _ _ _ h => h) (Or.inl ⟨by rfl, ?yg7_509⟩) hHeld ?rg7_509
  case yg7_509 =>
    intro wq hSw
    (try dsimp only at hSw)
    first | (go_simp; done) | (go_simp; with_reducible rfl)
  try simp only [Act.put, List.setIfInBounds_toArray, List.set_cons_zero, List.set_cons_succ]
  refine wpAnyH_take (i := 8) (oi := ⟨some 57, _, _, _, _, _⟩) (v := ?vg8_510) rfl (by kernel_rfl) (by kernel_rfl) (by kernel_rfl) (fun _ _ _ h => h) (Or.inl ⟨by rfl, ?yg8_510⟩) hHeld ?rg8_510
  case yg8_510 =>
    intro wq hSw
    (try dsimp only at hSw)
    first | (go_simp; done) | (go_simp; with_reducible rfl)
  try simp only [Act.put, List.setIfInBounds_toArray, List.set_cons_zero, List.set_cons_succ]
  refine wpAnyH_take (i := 9) (oi := ⟨some 58, _, _, _, _, _⟩) (v := ?vg9_511) rfl (by kernel_rfl) (by kernel_rfl) (by kernel_rfl) (fun _ _ _ h => h) (Or.inl ⟨by rfl, ?yg9_511⟩) hHeld ?rg9_511
  case yg9_511 =>
    intro wq hSw
    (try dsimp only at hSw)
    have q0 := hSw.cell_some C26.out (fun h => h)
    first | (go_simp; done) | (go_simp; with_reducible rfl)
  try simp only [Act.put, List.setIfInBounds_toArray, List.set_cons_zero, List.set_cons_succ]
  refine wpAnyH_take (i := 10) (oi := ⟨some 59, _, _, _, _, _⟩) (v := ?vg10_512) rfl (by kernel_rfl) (by kernel_rfl) (by kernel_rfl) (fun _ _ _ h => h) (Or.inl ⟨by rfl, ?yg10_512⟩) hHeld ?rg10_512
  case yg10_512 =>
    intro wq hSw
    (try dsimp only at hSw)
    first | (go_simp; done) | (go_simp; with_reducible rfl)
  try simp only [Act.put, List.setIfInBounds_toArray, List.set_cons_zero, List.set_cons_succ]
  refine wpAnyH_take (i := 11) (oi := ⟨some 60, _, _, _, _, _⟩) (v := ?vg11_513) rfl (by kernel_rfl) (by kernel_rfl) (by kernel_rfl) (fun _ _ _ h => h) (Or.inl ⟨by rfl, ?yg11_513⟩) hHeld ?rg11_513
  case yg11_513 =>
    intro wq hSw
    (try dsimp only at hSw)
    have q0 := hSw.cell_some B26.out (fun h => h)
    first | (go_simp; done) | (go_simp; with_reducible rfl)
  try simp only [Act.put, List.setIfInBounds_toArray, List.set_cons_zero, List.set_cons_succ]
  refine wpAnyH_take (i := 12) (oi := ⟨some 61, _, _, _, _, _⟩) (v := ?vg12_514) rfl (by kernel_rfl) (by kernel_rfl) (by kernel_rfl) (fun _ _ _ h => h) (Or.inl ⟨by rfl, ?yg12_514⟩) hHeld ?rg12_514
  case yg12_514 =>
    intro wq hSw
    (try dsimp only at hSw)
    first | (go_simp; done) | (go_simp; with_reducible rfl)
  try simp only [Act.put, List.setIfInBounds_toArray, List.set_cons_zero, List.set_cons_succ]
  refine wpAnyH_ready (rs := [13]) (by kernel_rfl) (by simp) ?_
  refine AllReadyH.cons (o := ⟨some 62, _, _, _, _, _⟩) rfl (fun K hK => ?_) (AllReadyH.nil)
  go_simp
  have hbN : Below v_501.heap.size v_501 (v_501.alloc (.cells #[.int .u8 139] 5)) := (Below.refl _ _).alloc (Nat.le_refl _) _
  have hxN := heap_alloc_new v_501 (.cells #[.int .u8 139] 5)
  obtain ⟨g9, hg9⟩ : ∃ x, x = v_501.heap.size := ⟨_, rfl⟩
  obtain ⟨v_515, hw⟩ : ∃ x, x = v_501.alloc (.cells #[.int .u8 139] 5) := ⟨_, rfl⟩
  rw [← hw] at hbN hxN ⊢
  rw [← hg9] at hxN ⊢
  have hfN : Fr (fun _ => False) v_501 v_515 := Fr.of_below hbN
  have Sg9 := Lib.hid (sl_blk (l := [139]) hxN rfl (by decide))
  clear hw hxN hg9
  clear hbN
  have hHeld := hHeld.trans hfN
  have hz_516 := hfN.size
  refine hK.out _ _ hHeld (fun _ => ?_)
  clear hK K hfN
  try simp only [Act.put, List.setIfInBounds_toArray, List.set_cons_zero, List.set_cons_succ]
  refine wpAnyH_ready (rs := [14]) (by kernel_rfl) (by simp) ?_
  refine AllReadyH.cons (o := ⟨some 63, _, _, _, _, _⟩) rfl (fun K hK => ?_) (AllReadyH.nil)
  go_simp
  have hbN : Below v_515.heap.size v_515 (v_515.alloc (.cells #[.slice A0 1 c0, .slice A7 1 c7, .slice (some ⟨g9, 0, none⟩) 1 1] 30)) := (Below.refl _ _).alloc (Nat.le_refl _) _
  have hxN := heap_alloc_new v_515 (.cells #[.slice A0 1 c0, .slice A7 1 c7, .slice (some ⟨g9, 0, none⟩) 1 1] 30)
  obtain ⟨gy, hgy⟩ : ∃ x, x = v_515.heap.size := ⟨_, rfl⟩
  obtain ⟨v_517, hw⟩ : ∃ x, x = v_515.alloc (.cells #[.slice A0 1 c0, .slice A7 1 c7, .slice (some ⟨g9, 0, none⟩) 1 1] 30) := ⟨_, rfl⟩
  rw [← hw] at hbN hxN ⊢
  rw [← hgy] at hxN ⊢
  have hfN : Fr (fun _ => False) v_515 v_517 := Fr.of_below hbN
  have hbq := (hHeld.belowAll (fun _ h => h.elim)).trans (hbN.mono hHeld.size)
  have Ggy := Lib.hid (gr_lit3 hxN (S06.out.below hbq (Nat.le_refl _)) (S76.out.below hbq (Nat.le_refl _)) (Sg9.out.below hbN (Nat.le_refl _)))
  have HCy := Lib.hid (HC6.out.later hbq)
  clear Sg9
  clear hw hxN hgy hbq
  clear hbN
  have hHeld := hHeld.trans hfN
  have hz_518 := hfN.size
  refine hK.out _ _ hHeld (fun _ => ?_)
  clear hK K hfN
  try simp only [Act.put, List.setIfInBounds_toArray, List.set_cons_zero, List.set_cons_succ]
  refine wpAnyH_ready (rs := [15]) (by kernel_rfl) (by simp) ?_
  refine AllReadyH.cons (o := ⟨some 64, _, _, _, _, _⟩) rfl (fun K hK => ?_) (AllReadyH.nil)
  go_simp
  have hh := find_any C 1 2 F T (some ⟨gy, 0, none⟩) 3 3 [[5], [7], [139]] 0 (by omega) (by omega) v_517 HCy.out Ggy.out (by decide)
  refine hh.mono ?_; clear hh; rintro e v_519 ⟨hR, hbN⟩
  rcases hR with ⟨hno, _⟩ | ⟨_, ⟨_, _, _, _, _, dn, _, _, _, hd, hle⟩ | ⟨rfl, _⟩⟩
  · rw [ex8_ok0] at hno; cases hno
  · exact absurd hle (ex8_no dn hd)
  have hfN : Fr (fun _ => False) v_517 v_519 := Fr.of_below hbN
  clear hbN Ggy HCy
  go_wp2_with fail
  have hHeld := hHeld.trans hfN
  have hz_520 := hfN.size
  refine hK.out _ _ hHeld (fun _ => ?_)
  clear hK K hfN
  try simp only [Act.put, List.setIfInBounds_toArray, List.set_cons_zero, List.set_cons_succ]
  refine wpAnyH_take (i := 16) (oi := ⟨some 48, _, _, _, _, _⟩) (v := ?vg16_521) rfl (by kernel_rfl) (by kernel_rfl) (by kernel_rfl) (fun _ _ _ h => h) (Or.inl ⟨by rfl, ?yg16_521⟩) hHeld ?rg16_521
  case yg16_521 =>
    intro wq hSw
    (try dsimp only at hSw)
    first | (go_simp; done) | (go_simp; with_reducible rfl)
  try simp only [Act.put, List.setIfInBounds_toArray, List.set_cons_zero, List.set_cons_succ]
  refine wpAnyH_take (i := 17) (oi := ⟨some 65, _, _, _, _, _⟩) (v := ?vg17_522) rfl (by kernel_rfl) (by kernel_rfl) (by kernel_rfl) (fun _ _ _ h => h) (Or.inl ⟨by rfl, ?yg17_522⟩) hHeld ?rg17_522
  case yg17_522 =>
    intro wq hSw
    (try dsimp only at hSw)
    first | (go_simp; done) | (go_simp; with_reducible rfl)
  try simp only [Act.put, List.setIfInBounds_toArray, List.set_cons_zero, List.set_cons_succ]
  refine wpAnyH_take (i := 18) (oi := ⟨some 66, _, _, _, _, _⟩) (v := ?vg18_523) rfl (by kernel_rfl) (by kernel_rfl) (by kernel_rfl) (fun _ _ _ h => h) (Or.inl ⟨by rfl, ?yg18_523⟩) hHeld ?rg18_523
  case yg18_523 =>
    intro wq hSw
    (try dsimp only at hSw)
    first | (go_simp; done) | (go_simp; with_reducible rfl)
  try simp only [Act.put, List.setIfInBounds_toArray, List.set_cons_zero, List.set_cons_succ]
  refine wpAnyH_take (i := 19) (oi := ⟨some 67, _, _, _, _, _⟩) (v := ?vg19_524) rfl (by kernel_rfl) (by kernel_rfl) (by kernel_rfl) (fun _ _ _ h => h) (Or.inl ⟨by rfl, ?yg19_524⟩) hHeld ?rg19_524
  case yg19_524 =>
    intro wq hSw
    (try dsimp only at hSw)
    first | (go_simp; done) | (go_simp; with_reducible rfl)
  try simp only [Act.put, List.setIfInBounds_toArray, List.set_cons_zero, List.set_cons_succ]
  refine wpAnyH_take (i := 20) (oi := ⟨some 8, _, _, _, _, _⟩) (v := ?vg20_525) rfl (by kernel_rfl) (by kernel_rfl) (by kernel_rfl) (fun _ _ _ h => h) (Or.inl ⟨by rfl, ?yg20_525⟩) hHeld ?rg20_525
  case yg20_525 =>
    intro wq hSw
    (try dsimp only at hSw)
    first | (go_simp; done) | (go_simp; with_reducible rfl)
  try simp only [Act.put, List.setIfInBounds_toArray, List.set_cons_zero, List.set_cons_succ]
  refine wpAnyH_take (i := 21) (oi := ⟨some 9, _, _, _, _, _⟩) (v := ?vg21_526) rfl (by kernel_rfl) (by kernel_rfl) (by kernel_rfl) (fun _ _ _ h => h) (Or.inl ⟨by rfl, ?yg21_526⟩) hHeld ?rg21_526
  case yg21_526 =>
    intro wq hSw
    (try dsimp only at hSw)
    first | (go_simp; done) | (go_simp; with_reducible rfl)
  try simp only [Act.put, List.setIfInBounds_toArray, List.set_cons_zero, List.set_cons_succ]
  refine wpAnyH_take (i := 22) (oi := ⟨some 10, _, _, _, _, _⟩) (v := ?vg22_527) rfl (by kernel_rfl) (by kernel_rfl) (by kernel_rfl) (fun _ _ _ h => h) (Or.inl ⟨by rfl, ?yg22_527⟩) hHeld ?rg22_527
  case yg22_527 =>
    intro wq hSw
    (try dsimp only at hSw)
    first | (go_simp; done) | (go_simp; with_reducible rfl)
  try simp only [Act.put, List.setIfInBounds_toArray, List.set_cons_zero, List.set_cons_succ]
  refine wpAnyH_done (by kernel_rfl) ?_ _
  have Hb8 := Lib.hid (hHeld.belowAll (fun _ h => h.elim))
  clear hHeld
  obtain ⟨w8, hw8⟩ : ∃ x, x = v_519 := ⟨_, rfl⟩
  rw [← hw8] at Hb8 ⊢
  clear hw8
  clear x7
  have L8 := Lib.hid (L6.out.later Hb8.out)
  have HC8 := Lib.hid (HC6.out.later Hb8.out)
  have HP8 := Lib.hid (HP6.out.later Hb8.out)
  have Gb8 := Lib.hid (Gb6.out.later Hb8.out)
  have HX8 := Lib.hid (HX6.out.later Hb8.out)
  have HL8 := Lib.hid (HL6.out.below Hb8.out (Nat.le_refl _))
  clear L6 HC6 HP6 Gb6 HX6 HL6 C06 C26 B26 S06 D16 S76 Hb8
  go_wp2_with fail
  refine (rsame5_any _ _ _ _ _ _ _ _ _ HX8.out HP8.out).mono ?_; rintro e w9 ⟨rfl, hb9⟩
  rw [show decide (([[5], [5], [140]] : List (List UInt8)) = [[5], [5], [140]]) = true from by decide]
  have L9 := Lib.hid (L8.out.later hb9)
  have HC9 := Lib.hid (HC8.out.later hb9)
  have HP9 := Lib.hid (HP8.out.later hb9)
  have Gb9 := Lib.hid (Gb8.out.later hb9)
  have hl9 := HL8.out.below hb9 (Nat.le_refl _)
  obtain ⟨b9, o9, rfl, hc9⟩ := hl9.at_ (k := 0) (by decide)
  have l9 : w9.cell? ⟨b9, o9, none⟩ = some (.int .i64 1) := by have := hc9 0 (.int .i64 1) rfl; rwa [Nat.add_zero] at this
  clear hb9 hl9 hc9 L8 HC8 HP8 Gb8 HX8 HL8
  go_wp2_with fail
  have hh := close_any C 1 2 F T (some ⟨gx, 0, none⟩) 3 3 [[5], [7], [140]] 1 (by omega) (by omega) w9 HC9.out Gb9.out (by decide)
  refine hh.mono ?_; clear hh; rintro e wa ⟨hR, hba⟩
  rcases hR with ⟨_, hno | hno⟩ | ⟨dn, rfl, _, hd, hle⟩
  · rw [ex8_ok] at hno; cases hno
  · exact absurd (by rw [ex8_near]; decide) (hno [[5]] ex8_lev)
  rw [ex8_one hd hle, ex8_near]
  have LA := Lib.hid (L9.out.later hba)
  have HPA := Lib.hid (HP9.out.later hba)
  have GbA := Lib.hid (Gb9.out.later hba)
  clear hba hd hle l9 L9 HC9 HP9 Gb9
  go_wp2_with fail
  have hh := differ_any (some ⟨gx, 0, none⟩) 3 3 [[5], [7], [140]] (some ⟨b, o, none⟩) 3 c4 [[5], [5], [140]] wa GbA.out HPA.out (by decide) (by decide)
  refine hh.mono ?_; clear hh; rintro e wb ⟨A9, q9, c9, rfl, hs9, hbb⟩
  rw [show max ([[5], [7], [140]] : List (List UInt8)).length ([[5], [5], [140]] : List (List UInt8)).length = 3 from rfl, ex8_dif] at hs9
  have hq9 := hs9.len
  have hq9 : q9 = 1 := by rw [ncells_length] at hq9; simpa using hq9.symm
  subst hq9
  have LB := Lib.hid (LA.out.later hbb)
  clear hs9 hbb LA HPA GbA
  go_wp2_with fail
  go_ret
  exact ⟨rfl, LB.out.bel⟩
end Go.Proofs.YtabcmjbcnmedhaaGreat
