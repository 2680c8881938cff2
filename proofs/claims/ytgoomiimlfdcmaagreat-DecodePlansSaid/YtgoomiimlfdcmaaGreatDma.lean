/-
  What comes back of any k of what a coder makes; the contract of the law's own example of layer 6. (Written by gen_dma.py.)
-/
import Derived.Test.YtgoomiimlfdcmaaGreatDkj
import Derived.Test.YtgoomiimlfdcmaaGreatDlk
import Derived.Test.YtgoomiimlfdcmaaGreatCca
namespace Go.Proofs.YtgoomiimlfdcmaaGreat
open Go.RowKit Go.Proofs
set_option linter.unusedVariables false

theorem shard_getD (k : Nat) (ds : List (List UInt8)) (i p : Nat) (hp : p < (ds.getD 0 []).length) : (shard k ds i).getD p 0 = xs k fun j => gm (facB k i j) ((ds.getD j []).getD p 0) := by
  rw [List.getD_eq_getElem?_getD, shard_at k ds i p hp, Option.getD_some]
/-- Of k shards that a coder made of data the data come back. -/
theorem solD_back {k W : Nat} {X : Mx} {ds rs : List (List UInt8)} {T : List Nat} (hW : (ds.getD 0 []).length = W) (hX : Alike k k (mm k X (facM k T)) one) (hrow : ∀ a, a < k → rs.getD (T.getD a 0) [] = shard k ds (T.getD a 0)) (j : Nat) (hj : j < k) (p : Nat) (hp : p < W) :
    solD k X rs T j p = (ds.getD j []).getD p 0 := by
  have e1 : solD k X rs T j p = xs k fun a => gm (X j a) (xs k fun b => gm (facM k T a b) ((ds.getD b []).getD p 0)) := xs_congr k fun a ha => by
    rw [hrow a ha, shard_getD _ _ _ _ (by omega)]
    rfl
  rw [e1]
  have h := congrFun (congrFun (mm_assoc k k X (facM k T) (fun b q => (ds.getD b []).getD q 0)) j) p
  have h' : (xs k fun b => gm (mm k X (facM k T) j b) ((ds.getD b []).getD p 0)) = xs k fun a => gm (X j a) (xs k fun b => gm (facM k T a b) ((ds.getD b []).getD p 0)) := h
  rw [← h', xs_one j k hj (fun b hb hne => by rw [hX j hj b hb, one, if_neg (fun e => hne e.symm), zero_gm]), hX j hj j hj, one, if_pos rfl, one_gm]
theorem data_back {k W : Nat} {X : Mx} {ds rs : List (List UInt8)} {T : List Nat} (hl : ds.length = k) (hlv : levelB ds = true) (hW : (ds.getD 0 []).length = W) (hX : Alike k k (mm k X (facM k T)) one) (hrow : ∀ a, a < k → rs.getD (T.getD a 0) [] = shard k ds (T.getD a 0)) : dataL k W (solD k X rs T) = ds := by
  apply List.ext_getElem
  · rw [dataL_length, hl]
  · intro j h1 h2
    have hj : j < k := by omega
    have e : (dataL k W (solD k X rs T))[j] = rowL W (solD k X rs T j) := by simp [dataL]
    have hlj : ds[j].length = W := by
      have := levelB_at hlv (j := j) (by omega)
      rw [hW] at this
      simpa [h2] using this
    rw [e]
    apply List.ext_getElem
    · rw [rowL_length, hlj]
    · intro p h3 h4
      have e2 := rowL_get W (solD k X rs T j) p (by omega)
      rw [List.getElem?_eq_getElem h3] at e2
      injection e2 with e2
      rw [e2, solD_back hW hX hrow j hj p (by omega)]
      simp [h2, h4]

theorem gr_lit3 {w : World} {g n0 n1 n2 c0 c1 c2 : Nat} {A0 A1 A2 : Option Addr} {l0 l1 l2 : List UInt8} (hg : w.heap[g]? = some (.cells #[.slice A0 n0 c0, .slice A1 n1 c1, .slice A2 n2 c2] 39 (0, 0))) (h0 : Sl w 1 A0 n0 c0 (cells l0)) (h1 : Sl w 1 A1 n1 c1 (cells l1)) (h2 : Sl w 1 A2 n2 c2 (cells l2)) : Gr w (some ⟨g, 0, none⟩) 3 3 [l0, l1, l2] := by
  have e0 : n0 = l0.length := by have := h0.len; rw [cells_length] at this; omega
  have e1 : n1 = l1.length := by have := h1.len; rw [cells_length] at this; omega
  have e2 : n2 = l2.length := by have := h2.len; rw [cells_length] at this; omega
  subst e0 e1 e2
  refine ⟨⟨_, ⟨rfl, Nat.le_refl _, by decide, fun j u hu => ⟨g, 0, rfl, by rw [cell_of_row _ _ _ _ _ _ hg, Nat.zero_add]; simpa using hu⟩⟩, fun i r hi => ?_⟩, rfl⟩
  rcases i with _ | _ | _ | i
  · simp at hi; subst hi; exact ⟨_, _, rfl, h0⟩
  · simp at hi; subst hi; exact ⟨_, _, rfl, h1⟩
  · simp at hi; subst hi; exact ⟨_, _, rfl, h2⟩
  · simp at hi

theorem ex_par : [[5], [9]] ++ parL 2 [[5], [9]] 1 = [[5], [9], [139]] := by decide +kernel
theorem ex_right : rightX 2 1 [[], [9], [139]] = 0 := by decide +kernel
theorem ex_few : rightX 2 1 [[], [9], []] = 60 := by decide +kernel
theorem ex_there : (thereL [[], [9], [139]] 3).take 2 = [1, 2] := by decide +kernel
theorem ex_there0 : thereL [[], [9], [139]] 3 = [1, 2] := by decide +kernel
theorem ex_back {X : Mx} (hX : Alike 2 2 (mm 2 X (facM 2 ((thereL [[], [9], [139]] 3).take 2))) one) : fillL ([[], [9], [139]].take 2) (makeL 2 X [[], [9], [139]] ((thereL [[], [9], [139]] 3).take 2) (([[], [9], [139]] : List (List UInt8)).getD ((thereL [[], [9], [139]] 3).getD 0 0) []).length) 2 = [[5], [9]] := by
  rw [data_same (by decide) hX (by rw [ex_there0]; decide) rfl (by decide) (by rw [ex_there, ex_there0]; decide)]
  exact data_back rfl (by decide) (by rw [ex_there0]; decide) hX (by rw [ex_there]; decide +kernel)
theorem ex_apart : apartB [2, 1] (2 + 1) = true := by decide
theorem srt_sorted (xs : List Int) : (srt xs).Pairwise fun a b => decide (a ≤ b) = true := List.pairwise_mergeSort (fun a b c h1 h2 => by simp at *; omega) (fun a b => by simp; omega) xs
theorem srt_eq {xs ys : List Int} (hp : ys.Perm xs) (hs : ys.Pairwise fun a b => decide (a ≤ b) = true) : srt xs = ys :=
  List.Perm.eq_of_pairwise (le := fun a b => decide (a ≤ b) = true) (fun a b _ _ h1 h2 => by simp at *; omega) (srt_sorted xs) hs ((srt_perm xs).trans hp.symm)
theorem ex_srt : (srtN [2, 1]).take 2 = [1, 2] := by
  rw [srtN, srt_eq (ys := [1, 2]) (List.Perm.swap 2 1 []) (by decide)]
  rfl
theorem Sl.nilc (w : World) : Sl w 1 none 0 0 (cells []) := Sl.nil w 1 0 (by decide)
theorem ex_plan {X : Mx} (hX : Alike 2 2 (mm 2 X (facM 2 ((srtN [2, 1]).take 2))) one) : planL 2 X 1 = [1, 0] := by
  rw [ex_srt] at hX
  have hb := inverse_both hX
  have e : ∀ b, b < 2 → (xs 2 fun j => gm (facB 2 1 j) (X j b)) = one 0 b := fun b hb' => hb 0 (by decide) b hb'
  have e0 := e 0 (by decide)
  have e1 := e 1 (by decide)
  show [xs 2 (fun j => gm (facB 2 1 j) (X j 0)), xs 2 (fun j => gm (facB 2 1 j) (X j 1))] = _
  rw [e0, e1]
  rfl

set_option maxRecDepth 20000 in
set_option maxHeartbeats 3200000 in
theorem decodes_any (w : World) : Calls Tryz.prog 12 #[] w (SaysTrue w) := by
  go_enter Tryz.func12, Tryz.ntmps12
  go_wp2_with fail
  refine (new_any _).mono ?_; rintro e w1 ⟨rfl, hf, hb⟩
  obtain ⟨F, hF⟩ : ∃ F, F = w.heap.size + 1 := ⟨_, rfl⟩
  obtain ⟨T, hT⟩ : ∃ T, T = w.heap.size := ⟨_, rfl⟩
  rw [← hF] at hf ⊢
  rw [← hT] at hf
  have HT := Lib.hid (show w.heap.size ≤ T by omega)
  clear hF hT
  go_wp2_with fail
  refine (cnew_at F T 2 1 2 1 rfl rfl (by omega) _ hf).mono ?_; rintro e w2 ⟨C, rfl, hC, hr⟩
  have L2 := Lib.hid (Lw.of hb HT.out hr hC.fld)
  have HC2 := Lib.hid hC
  clear hf hb hC hr
  go_wp2_with fail
  have hb3 : Below w2.heap.size w2 (((w2.alloc (.cells #[.int .u8 5] 5)).alloc (.cells #[.int .u8 9] 5)).alloc (.cells #[.slice (some ⟨w2.heap.size, 0, none⟩) 1 1, .slice (some ⟨w2.heap.size + 1, 0, none⟩) 1 1] 39)) := (((Below.refl _ _).alloc (Nat.le_refl _) _).alloc (by simp) _).alloc (by simp; omega) _
  refine (all_any C 2 1 F T (some ⟨w2.heap.size + 1 + 1, 0, none⟩) 2 2 [[5], [9]] _ (HC2.out.later hb3) (gr_lit2 w2 #[.int .u8 5] #[.int .u8 9] [5] [9] rfl rfl (by decide) (by decide)) (by decide)).mono ?_
  rintro e w4 ⟨hb4, hR⟩
  rw [ex_par] at hR
  rcases hR with ⟨hno, _⟩ | ⟨_, A4, c4, rfl, hp⟩
  · exact absurd hno (by decide)
  have hb4' := hb3.trans (hb4.mono hb3.size)
  have L4 := Lib.hid (L2.out.later hb4')
  have HC4 := Lib.hid (HC2.out.later hb4')
  have HP4 := Lib.hid (show Gr w4 A4 3 c4 [[5], [9], [139]] from hp)
  clear hb3 hb4 hb4' hp L2 HC2
  obtain ⟨b, o, rfl, hc⟩ := HP4.out.at_ (by decide)
  obtain ⟨A1, c1, hc1, hs1⟩ := hc 1 [9] rfl
  obtain ⟨A2, c2, hc2, hs2⟩ := hc 2 [139] rfl
  have C1 := Lib.hid (show w4.cell? ⟨b, o + 1, none⟩ = some (.slice A1 1 c1) from hc1)
  have C2 := Lib.hid (show w4.cell? ⟨b, o + 2, none⟩ = some (.slice A2 1 c2) from hc2)
  have S1 := Lib.hid (show Sl w4 1 A1 1 c1 (cells [9]) from hs1)
  have S2 := Lib.hid (show Sl w4 1 A2 1 c2 (cells [139]) from hs2)
  clear hc hc1 hc2 hs1 hs2
  go_upto_region 5 with (fail)
  refine wp_region_held_drew (S := fun w' => Fr (fun _ => False) w4 w') (by kernel_rfl) (Fr.drew (Fr.refl _ _)) (fun hHeld => ?_)
  clear hHeld
  have hHeld : Fr (fun _ => False) w4 w4.drew := Fr.drew (Fr.refl _ _)
  have hz_0 : w4.heap.size ≤ w4.drew.heap.size := Nat.le_refl _
  obtain ⟨v_1, hw⟩ : ∃ v_1, v_1 = w4.drew := ⟨_, rfl⟩
  rw [← hw] at hHeld hz_0  ⊢
  clear hw
  refine wpAnyH_take (i := 0) (oi := ⟨some 29, _, _, _, _, _⟩) (v := ?vg0_2) rfl (by kernel_rfl) (by kernel_rfl) (by kernel_rfl) (fun _ _ _ h => h) (Or.inl ⟨by rfl, ?yg0_2⟩) hHeld ?rg0_2
  case yg0_2 =>
    intro wq hSw
    (try dsimp only at hSw)
    first | (go_simp; done) | (go_simp; with_reducible rfl)
  try simp only [Act.put, List.setIfInBounds_toArray, List.set_cons_zero, List.set_cons_succ]
  refine wpAnyH_take (i := 1) (oi := ⟨some 30, _, _, _, _, _⟩) (v := ?vg1_3) rfl (by kernel_rfl) (by kernel_rfl) (by kernel_rfl) (fun _ _ _ h => h) (Or.inl ⟨by rfl, ?yg1_3⟩) hHeld ?rg1_3
  case yg1_3 =>
    intro wq hSw
    (try dsimp only at hSw)
    first | (go_simp; done) | (go_simp; with_reducible rfl)
  try simp only [Act.put, List.setIfInBounds_toArray, List.set_cons_zero, List.set_cons_succ]
  refine wpAnyH_take (i := 2) (oi := ⟨some 31, _, _, _, _, _⟩) (v := ?vg2_4) rfl (by kernel_rfl) (by kernel_rfl) (by kernel_rfl) (fun _ _ _ h => h) (Or.inl ⟨by rfl, ?yg2_4⟩) hHeld ?rg2_4
  case yg2_4 =>
    intro wq hSw
    (try dsimp only at hSw)
    first | (go_simp; done) | (go_simp; with_reducible rfl)
  try simp only [Act.put, List.setIfInBounds_toArray, List.set_cons_zero, List.set_cons_succ]
  refine wpAnyH_take (i := 3) (oi := ⟨some 32, _, _, _, _, _⟩) (v := ?vg3_5) rfl (by kernel_rfl) (by kernel_rfl) (by kernel_rfl) (fun _ _ _ h => h) (Or.inl ⟨by rfl, ?yg3_5⟩) hHeld ?rg3_5
  case yg3_5 =>
    intro wq hSw
    (try dsimp only at hSw)
    have q0 := hSw.cell_some C1.out (fun h => h)
    first | (go_simp; done) | (go_simp; with_reducible rfl)
  try simp only [Act.put, List.setIfInBounds_toArray, List.set_cons_zero, List.set_cons_succ]
  refine wpAnyH_take (i := 4) (oi := ⟨some 33, _, _, _, _, _⟩) (v := ?vg4_6) rfl (by kernel_rfl) (by kernel_rfl) (by kernel_rfl) (fun _ _ _ h => h) (Or.inl ⟨by rfl, ?yg4_6⟩) hHeld ?rg4_6
  case yg4_6 =>
    intro wq hSw
    (try dsimp only at hSw)
    first | (go_simp; done) | (go_simp; with_reducible rfl)
  try simp only [Act.put, List.setIfInBounds_toArray, List.set_cons_zero, List.set_cons_succ]
  refine wpAnyH_take (i := 5) (oi := ⟨some 34, _, _, _, _, _⟩) (v := ?vg5_7) rfl (by kernel_rfl) (by kernel_rfl) (by kernel_rfl) (fun _ _ _ h => h) (Or.inl ⟨by rfl, ?yg5_7⟩) hHeld ?rg5_7
  case yg5_7 =>
    intro wq hSw
    (try dsimp only at hSw)
    first | (go_simp; done) | (go_simp; with_reducible rfl)
  try simp only [Act.put, List.setIfInBounds_toArray, List.set_cons_zero, List.set_cons_succ]
  refine wpAnyH_take (i := 6) (oi := ⟨some 35, _, _, _, _, _⟩) (v := ?vg6_8) rfl (by kernel_rfl) (by kernel_rfl) (by kernel_rfl) (fun _ _ _ h => h) (Or.inl ⟨by rfl, ?yg6_8⟩) hHeld ?rg6_8
  case yg6_8 =>
    intro wq hSw
    (try dsimp only at hSw)
    have q0 := hSw.cell_some C2.out (fun h => h)
    first | (go_simp; done) | (go_simp; with_reducible rfl)
  try simp only [Act.put, List.setIfInBounds_toArray, List.set_cons_zero, List.set_cons_succ]
  refine wpAnyH_ready (rs := [7]) (by kernel_rfl) (by simp) ?_
  refine AllReadyH.cons (o := ⟨some 36, _, _, _, _, _⟩) rfl (fun K hK => ?_) (AllReadyH.nil)
  go_simp
  have hbN : Below v_1.heap.size v_1 (v_1.alloc (.cells #[.slice none 0 0, .slice A1 1 c1, .slice A2 1 c2] 39)) := (Below.refl _ _).alloc (Nat.le_refl _) _
  have hxN := heap_alloc_new v_1 (.cells #[.slice none 0 0, .slice A1 1 c1, .slice A2 1 c2] 39)
  obtain ⟨gx, hgx⟩ : ∃ x, x = v_1.heap.size := ⟨_, rfl⟩
  obtain ⟨v_9, hw⟩ : ∃ x, x = v_1.alloc (.cells #[.slice none 0 0, .slice A1 1 c1, .slice A2 1 c2] 39) := ⟨_, rfl⟩
  rw [← hw] at hbN hxN ⊢
  rw [← hgx] at hxN ⊢
  have hfN : Fr (fun _ => False) v_1 v_9 := Fr.of_below hbN
  have hbq := (hHeld.belowAll (fun _ h => h.elim)).trans (hbN.mono hHeld.size)
  have Hg3 := Lib.hid (gr_lit3 hxN (Sl.nilc _) (S1.out.below hbq (Nat.le_refl _)) (S2.out.below hbq (Nat.le_refl _)))
  have Hc3 := Lib.hid (HC4.out.later hbq)
  clear hw hxN hgx hbN hbq
  have hHeld := hHeld.trans hfN
  have hz_10 := hfN.size
  refine hK.out _ _ hHeld (fun _ => ?_)
  clear hK K hfN
  try simp only [Act.put, List.setIfInBounds_toArray, List.set_cons_zero, List.set_cons_succ]
  refine wpAnyH_ready (rs := [8]) (by kernel_rfl) (by simp) ?_
  refine AllReadyH.cons (o := ⟨some 37, _, _, _, _, _⟩) rfl (fun K hK => ?_) (AllReadyH.nil)
  go_simp
  have hh := ddata_any C 2 1 F T (some ⟨gx, 0, none⟩) 3 3 [[], [9], [139]] v_9 Hc3.out Hg3.out (by decide) (by decide)
  rw [ex_right] at hh
  refine hh.mono ?_; clear hh; rintro e v_11 ⟨hR, hbN⟩
  rcases hR with ⟨hno, _⟩ | ⟨_, A5, c5, X, hX, rfl, hD⟩
  · exact absurd rfl hno
  rw [ex_back hX] at hD
  have HD5 := Lib.hid hD
  have hfN : Fr (fun _ => False) v_9 v_11 := Fr.of_below hbN
  clear hbN hD hX Hg3 Hc3
  go_wp2_with fail
  have hHeld := hHeld.trans hfN
  have hz_12 := hfN.size
  refine hK.out _ _ hHeld (fun _ => ?_)
  clear hK K hfN
  try simp only [Act.put, List.setIfInBounds_toArray, List.set_cons_zero, List.set_cons_succ]
  refine wpAnyH_take (i := 9) (oi := ⟨some 28, _, _, _, _, _⟩) (v := ?vg9_13) rfl (by kernel_rfl) (by kernel_rfl) (by kernel_rfl) (fun _ _ _ h => h) (Or.inl ⟨by rfl, ?yg9_13⟩) hHeld ?rg9_13
  case yg9_13 =>
    intro wq hSw
    (try dsimp only at hSw)
    first | (go_simp; done) | (go_simp; with_reducible rfl)
  try simp only [Act.put, List.setIfInBounds_toArray, List.set_cons_zero, List.set_cons_succ]
  refine wpAnyH_take (i := 10) (oi := ⟨some 38, _, _, _, _, _⟩) (v := ?vg10_14) rfl (by kernel_rfl) (by kernel_rfl) (by kernel_rfl) (fun _ _ _ h => h) (Or.inl ⟨by rfl, ?yg10_14⟩) hHeld ?rg10_14
  case yg10_14 =>
    intro wq hSw
    (try dsimp only at hSw)
    first | (go_simp; done) | (go_simp; with_reducible rfl)
  try simp only [Act.put, List.setIfInBounds_toArray, List.set_cons_zero, List.set_cons_succ]
  refine wpAnyH_take (i := 11) (oi := ⟨some 39, _, _, _, _, _⟩) (v := ?vg11_15) rfl (by kernel_rfl) (by kernel_rfl) (by kernel_rfl) (fun _ _ _ h => h) (Or.inl ⟨by rfl, ?yg11_15⟩) hHeld ?rg11_15
  case yg11_15 =>
    intro wq hSw
    (try dsimp only at hSw)
    first | (go_simp; done) | (go_simp; with_reducible rfl)
  try simp only [Act.put, List.setIfInBounds_toArray, List.set_cons_zero, List.set_cons_succ]
  refine wpAnyH_take (i := 12) (oi := ⟨some 4, _, _, _, _, _⟩) (v := ?vg12_16) rfl (by kernel_rfl) (by kernel_rfl) (by kernel_rfl) (fun _ _ _ h => h) (Or.inl ⟨by rfl, ?yg12_16⟩) hHeld ?rg12_16
  case yg12_16 =>
    intro wq hSw
    (try dsimp only at hSw)
    first | (go_simp; done) | (go_simp; with_reducible rfl)
  try simp only [Act.put, List.setIfInBounds_toArray, List.set_cons_zero, List.set_cons_succ]
  refine wpAnyH_take (i := 13) (oi := ⟨some 5, _, _, _, _, _⟩) (v := ?vg13_17) rfl (by kernel_rfl) (by kernel_rfl) (by kernel_rfl) (fun _ _ _ h => h) (Or.inl ⟨by rfl, ?yg13_17⟩) hHeld ?rg13_17
  case yg13_17 =>
    intro wq hSw
    (try dsimp only at hSw)
    first | (go_simp; done) | (go_simp; with_reducible rfl)
  try simp only [Act.put, List.setIfInBounds_toArray, List.set_cons_zero, List.set_cons_succ]
  refine wpAnyH_done (by kernel_rfl) ?_ _
  have Hb5 := Lib.hid (hHeld.belowAll (fun _ h => h.elim))
  clear hHeld
  obtain ⟨w5, hw5⟩ : ∃ x, x = v_11 := ⟨_, rfl⟩
  rw [← hw5] at Hb5 HD5 ⊢
  clear hw5
  have hz5 := Hb5.out.size
  have c1' := (Hb5.out.cell (World.block_lt_of_cell? w4 _ C1.out)).trans C1.out
  have L5 := Lib.hid (L4.out.later Hb5.out)
  have HC5 := Lib.hid (HC4.out.later Hb5.out)
  have S15 := Lib.hid (S1.out.below Hb5.out (Nat.le_refl _))
  clear L4 HC4 HP4 S1 S2 C1 C2
  go_wp2_with fail
  have hb6 : Below w5.heap.size w5 (w5.alloc (.cells #[.slice none 0 0, .slice A1 1 c1, .slice none 0 0] 39)) := (Below.refl _ _).alloc (Nat.le_refl _) _
  refine (ddata_any C 2 1 F T (some ⟨w5.heap.size, 0, none⟩) 3 3 [[], [9], []] _ (HC5.out.later hb6) (gr_lit3 (heap_alloc_new _ _) (Sl.nilc _) (S15.out.below hb6 (Nat.le_refl _)) (Sl.nilc _)) (by decide) (by decide)).mono ?_
  rintro e w7 ⟨hR, hb7⟩
  rw [ex_few] at hR
  rcases hR with ⟨_, rfl⟩ | ⟨hno, _⟩
  rotate_left
  · exact absurd hno (by decide)
  have hb7' := hb6.trans (hb7.mono hb6.size)
  have L7 := Lib.hid (L5.out.later hb7')
  have HC7 := Lib.hid (HC5.out.later hb7')
  have HD7 := Lib.hid (HD5.out.later hb7')
  clear hb6 hb7 hb7' L5 HC5 HD5 S15 c1'
  go_wp2_with fail
  have hb8 : Below w7.heap.size w7 (w7.alloc (.cells #[.int .i64 2, .int .i64 1] 3)) := (Below.refl _ _).alloc (Nat.le_refl _) _
  have hs8 : Sl (w7.alloc (.cells #[.int .i64 2, .int .i64 1] 3)) 1 (some ⟨w7.heap.size, 0, none⟩) 2 2 (icells [2, 1]) := Sl.made w7 #[.int .i64 2, .int .i64 1] 3 1 2 rfl (by decide)
  refine (plan_any C 2 1 F T (some ⟨w7.heap.size, 0, none⟩) 2 2 [2, 1] 1 _ (HC7.out.later hb8) hs8 (by decide) (by decide)).mono ?_
  rintro e w9 ⟨hR, hb9⟩
  rcases hR with ⟨hno, _⟩ | ⟨hno, _⟩ | ⟨_, _, _, B1, d1, B2, d2, X, rfl, hl1, hX, hl2⟩
  · exact absurd ⟨ex_apart, by decide, by decide⟩ hno
  · exact absurd hno.2.2 (by decide)
  rw [ex_srt] at hl1
  rw [show (1 : Int).toNat = 1 from rfl, ex_plan hX] at hl2
  have hb9' := hb8.trans (hb9.mono hb8.size)
  have L9 := Lib.hid (L7.out.later hb9')
  have hD9 := HD7.out.later hb9'
  obtain ⟨b3, o3, rfl, hc⟩ := hD9.at_ (by decide)
  obtain ⟨A5, c5, hc5, hs5⟩ := hc 0 [5] rfl
  obtain ⟨A6, c6, hc6, hs6⟩ := hc 1 [9] rfl
  rw [Nat.add_zero] at hc5
  have hc5' : w9.cell? ⟨b3, o3, none⟩ = some (.slice A5 1 c5) := hc5
  have hc6' : w9.cell? ⟨b3, o3 + 1, none⟩ = some (.slice A6 1 c6) := hc6
  have k5 := str_of (show Sl w9 1 A5 1 c5 (cells [5]) from hs5)
  have k6 := str_of (show Sl w9 1 A6 1 c6 (cells [9]) from hs6)
  have k7 := str_of (show Sl w9 1 B2 2 d2 (cells [1, 0]) from hl2)
  rw [show bstr [5] = { data := #[5] } from rfl] at k5
  rw [show bstr [9] = { data := #[9] } from rfl] at k6
  rw [show bstr [1, 0] = { data := #[1, 0] } from rfl] at k7
  obtain ⟨b4, o4, rfl, hcn⟩ := hl1.at_ (show 0 < 2 by decide)
  have n0 : w9.cell? ⟨b4, o4, none⟩ = some (.int .i64 1) := by have := hcn 0 (.int .i64 1) rfl; rwa [Nat.add_zero] at this
  have n1 : w9.cell? ⟨b4, o4 + 1, none⟩ = some (.int .i64 2) := hcn 1 (.int .i64 2) rfl
  clear hc hc5 hc6 hs5 hs6 hl1 hl2 hcn hX hD9 hb8 hb9 hb9' hs8 L7 HC7 HD7
  go_wp2_with fail
  go_ret
  exact ⟨rfl, L9.out.bel⟩
end Go.Proofs.YtgoomiimlfdcmaaGreat
