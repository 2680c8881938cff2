/-
  Contracts of package code's Row and Encode. Condition: the coder is one that New made ('Cod').
-/
import Derived.Test.YtjacdabhlnfbkaaCac
import Derived.Deep.LoopGhost
namespace Go.Proofs.Ytjacdabhlnfbkaa
open Go.RowKit Go.Proofs
set_option linter.unusedVariables false

/-- The factor of data row j in shard i. -/
def facB (k i j : Nat) : UInt8 := if i < k then (if i = j then 1 else 0) else ginv (UInt8.ofNat i ^^^ UInt8.ofNat j)
/-- Shard i's factors. -/
def rowC (k i : Nat) : List UInt8 := (List.range k).map (facB k i)
theorem rowC_length (k i : Nat) : (rowC k i).length = k := by simp [rowC]
theorem rowC_getD (k i j : Nat) (h : j < k) : (rowC k i).getD j 0 = facB k i j := by simp [rowC, h]
def rowI (k m : Nat) (i : Int) : List UInt8 := if 0 ≤ i ∧ i < ((k + m : Nat) : Int) then rowC k i.toNat else []
theorem rowC_unit (k i : Nat) (h : i < k) : (List.replicate k (0 : UInt8)).set i 1 = rowC k i := by
  apply List.ext_getElem
  · simp [rowC]
  · intro j h1 h2
    simp only [rowC, List.getElem_map, List.getElem_range, facB, if_pos h, List.getElem_set, List.getElem_replicate]
theorem rowC_cau (k i : Nat) (h : k ≤ i) : tabL 1 k (cauM [UInt8.ofNat i] (upto k)) = rowC k i := by
  apply List.ext_getElem
  · rw [tabL_length, rowC_length, Nat.one_mul]
  · intro j h1 h2
    rw [rowC_length] at h2
    have hd : j / k = 0 := Nat.div_eq_of_lt h2
    have hm : j % k = j := Nat.mod_eq_of_lt h2
    simp only [tabL, rowC, List.getElem_map, List.getElem_range, hd, hm, cauM, facB, if_neg (show ¬ i < k by omega)]
    congr 2
    rw [List.getD_eq_getElem?_getD, upto_get k j h2, Option.getD_some]
theorem ofNat_inj {a b : Nat} (ha : a < 256) (hb : b < 256) (h : UInt8.ofNat a = UInt8.ofNat b) : a = b := by
  have := congrArg UInt8.toNat h
  rw [UInt8.toNat_ofNat', UInt8.toNat_ofNat'] at this
  omega
theorem once_upto (k i : Nat) (h : k ≤ i) (hi : i ≤ 255) : twiceB ([UInt8.ofNat i] ++ upto k) = false := by
  refine decide_eq_false fun hh => hh ?_
  rw [List.nodup_append]
  refine ⟨by simp, ?_, ?_⟩
  · rw [List.nodup_iff_pairwise_ne, upto, List.pairwise_map]
    refine List.Pairwise.imp_of_mem ?_ (List.nodup_iff_pairwise_ne.1 (List.nodup_range (n := k)))
    intro a b ha hb hne e
    have ha' := List.mem_range.1 ha
    have hb' := List.mem_range.1 hb
    exact hne (ofNat_inj (by omega) (by omega) e)
  · intro a ha b hb e
    rw [List.mem_singleton] at ha
    obtain ⟨j, hj, rfl⟩ := List.mem_map.1 hb
    have := List.mem_range.1 hj
    rw [ha] at e
    have := ofNat_inj (by omega) (by omega) e
    omega

theorem sl_one {w : World} {g : Nat} {z : Int} {u : UInt8} (hg : w.heap[g]? = some (.cells #[.int .u8 z] 5 (0, 0))) (hz : z = (u.toNat : Int)) : Sl w 1 (some ⟨g, 0, none⟩) 1 1 (cells [u]) := by
  subst hz
  exact ⟨rfl, Nat.le_refl _, by decide, fun j v hv => ⟨g, 0, rfl, by rw [cell_of_row _ _ _ _ _ _ hg, Nat.zero_add]; simpa [cells, bv] using hv⟩⟩

/-- Cauchy as Row calls it. -/
theorem cauchy1_any (C k m F T i g : Nat) (A2 : Option Addr) (c2 : Nat) (hk : k ≤ i) (hi : i < k + m) (w : World) (h : Cod w C k m F T)
    (hg : w.heap[g]? = some (.cells #[.int .u8 (IntKind.u8.wrap (i : Int))] 5 (0, 0))) (hgT : g ≠ T) (s2 : Sl w 1 A2 k c2 (cells (upto k))) (h2 : ∀ b o, A2 = some ⟨b, o, none⟩ → b ≠ T) :
    Calls Try.prog 60 #[.pointer (some ⟨F, 0, none⟩), .slice (some ⟨g, 0, none⟩) 1 1, .slice A2 k c2] w fun e w' =>
      ∃ A n c, e = .returned (.tuple #[.agg #[.int .i64 1, .int .i64 (k : Int), .slice A n c], .int .i64 0]) ∧ Sl w' 1 A n c (cells (rowC k i)) ∧ (∀ b o, A = some ⟨b, o, none⟩ → w.heap.size ≤ b ∧ b < w'.heap.size) ∧ Below w.heap.size w w' := by
  have h1 := h.k1
  have h3 := h.n255
  have hh := cauchy_yes F T (some ⟨g, 0, none⟩) 1 1 [UInt8.ofNat i] A2 k c2 (upto k) w h.fld.fld ⟨sl_one hg (by rw [UInt8.toNat_ofNat', IntKind.wrap_u8]; omega), fun b o _ e => by injection e with e; injection e with e _; omega⟩ ⟨s2, fun b o _ e => h2 b o e⟩ ⟨by omega, by omega⟩ ⟨h1, by omega⟩ (once_upto k i hk (by omega))
  refine hh.mono ?_; rintro e w' ⟨⟨A, c, rfl, hgr⟩, hf, hr⟩
  have hn : 0 < 1 * k := by omega
  refine ⟨A, 1 * k, c, rfl, by rw [← rowC_cau k i hk]; exact hgr.own.sl, fun b o e => ⟨ownsRow_new (hgr.row hn) hn e, hgr.own.sl.lt (by decide) hn e⟩, Fr.madeAll h.fld hf hr⟩

set_option maxRecDepth 20000 in
set_option maxHeartbeats 1600000 in
theorem crow_any (C k m F T : Nat) (i : Int) (hi1 : -9223372036854775808 ≤ i) (hi2 : i < 9223372036854775808) (w : World) (h : Cod w C k m F T) :
    Calls Try.prog 46 #[.pointer (some ⟨C, 0, none⟩), .int .i64 i] w (RetBytes w.heap.size w (rowI k m i)) := by
  have hm := cmade_any C k m F T w h
  have h3 := h.n255
  have hCT : T < w.heap.size := h.fld.fld.ltT
  have H := Lib.hid h; clear h
  by_cases hin : 0 ≤ i ∧ i < ((k + m : Nat) : Int)
  · obtain ⟨I, rfl⟩ : ∃ I : Nat, i = (I : Int) := ⟨i.toNat, by omega⟩
    have hg := fun u => ghas_any k m (I : Int) h3 u
    rw [withinB_t hin] at hg
    rw [rowI, if_pos hin, Int.toNat_natCast]
    have hI : I < k + m := by omega
    clear hin
    by_cases hlt : I < k
    · have hmk := make_eq (k : Int) k rfl (by omega)
      go_enter Try.func46, Try.ntmps46
      go_wp2_with fail
      refine hm.mono ?_; clear hm; rintro e w1 ⟨rfl, j, hw1⟩
      have hb1 : Below w.heap.size w w1 := by rw [hw1]; exact below_drewN (Below.refl _ _) j
      clear hw1
      have H1 := Lib.hid (H.out.later hb1)
      have c0 := H1.out.c0
      have c1 := H1.out.c1
      go_wp2_with fail
      refine (hg _).mono ?_; clear hg; rintro e w2 ⟨rfl, hb2⟩
      have H2 := Lib.hid (H1.out.later hb2)
      have hb := hb1.trans (hb2.mono hb1.size)
      clear c0 c1 hb1 hb2
      have c0 := H2.out.c0
      obtain ⟨g, hg', hB, hc, hz⟩ := (Mine.noughts w2 k).at_ hlt (show (List.replicate k (0 : UInt8))[I]? = some 0 by simp [hlt])
      injection hg' with hg'
      injection hg' with hg' _
      subst hg'
      have hs := Sl.made w2 ((madeCells #[.int .u8 0] k).setIfInBounds I (.int .u8 1)) 5 1 k (by rw [Array.size_setIfInBounds, size_madeCells, Nat.mul_one]) (by unfold maxLen; omega)
      rw [Array.toList_setIfInBounds, toList_madeCells_one, show (List.replicate k (Value.int .u8 0)).set I (.int .u8 1) = cells (rowC k I) from by rw [← rowC_unit k I hlt, cells, List.map_set, List.map_replicate]; rfl] at hs
      have Hs := Lib.hid hs; clear hs
      go_wp2_with fail
      go_ret
      exact ⟨_, _, _, rfl, Hs.out, hb.alloc hb.size _⟩
    · have hlt' : k ≤ I := by omega
      go_enter Try.func46, Try.ntmps46
      go_wp2_with fail
      refine hm.mono ?_; clear hm; rintro e w1 ⟨rfl, j, hw1⟩
      have hb1 : Below w.heap.size w w1 := by rw [hw1]; exact below_drewN (Below.refl _ _) j
      clear hw1
      have H1 := Lib.hid (H.out.later hb1)
      have c0 := H1.out.c0
      have c1 := H1.out.c1
      go_wp2_with fail
      refine (hg _).mono ?_; clear hg; rintro e w2 ⟨rfl, hb2⟩
      have H2 := Lib.hid (H1.out.later hb2)
      have hb := hb1.trans (hb2.mono hb1.size)
      have hsz2 := hb.size
      have Hb := Lib.hid hb
      clear c0 c1 hb1 hb2 hb
      have c0 := H2.out.c0
      go_upto_region 7 with (fail)
      clear c0
      refine wp_region_held_drew (S := fun w' => Below w2.heap.size w2 w') (by kernel_rfl) (Below.drew (Below.refl _ _)) (fun hHeld => ?_)
      clear hHeld
      have hHeld : Below w2.heap.size w2 w2.drew := Below.drew (Below.refl _ _)
      have hz_0 : w2.heap.size ≤ w2.drew.heap.size ∧ w2.drew.heap.size ≤ w2.heap.size := ⟨Nat.le_refl _, Nat.le_refl _⟩
      obtain ⟨v_1, hw⟩ : ∃ v_1, v_1 = w2.drew := ⟨_, rfl⟩
      rw [← hw] at hHeld hz_0 ⊢
      clear hw
      refine wpAnyH_take (i := 0) (oi := ⟨some 38, _, _, _, _, _⟩) (v := ?vg0_2) rfl (by kernel_rfl) (by kernel_rfl) (by kernel_rfl) (fun _ _ _ h => h) (Or.inl ⟨by rfl, ?yg0_2⟩) hHeld ?rg0_2
      case yg0_2 =>
        intro wq hSw
        (try dsimp only at hSw)
        first | (go_simp; done) | (go_simp; with_reducible rfl)
      try simp only [Act.put, List.setIfInBounds_toArray, List.set_cons_zero, List.set_cons_succ]
      refine wpAnyH_take (i := 1) (oi := ⟨some 39, _, _, _, _, _⟩) (v := ?vg1_3) rfl (by kernel_rfl) (by kernel_rfl) (by kernel_rfl) (fun _ _ _ h => h) (Or.inl ⟨by rfl, ?yg1_3⟩) hHeld ?rg1_3
      case yg1_3 =>
        intro wq hSw
        (try dsimp only at hSw)
        first | (go_simp; done) | (go_simp; with_reducible rfl)
      try simp only [Act.put, List.setIfInBounds_toArray, List.set_cons_zero, List.set_cons_succ]
      refine wpAnyH_take (i := 2) (oi := ⟨some 40, _, _, _, _, _⟩) (v := ?vg2_4) rfl (by kernel_rfl) (by kernel_rfl) (by kernel_rfl) (fun _ _ _ h => h) (Or.inl ⟨by rfl, ?yg2_4⟩) hHeld ?rg2_4
      case yg2_4 =>
        intro wq hSw
        (try dsimp only at hSw)
        first | (go_simp; done) | (go_simp; with_reducible rfl)
      try simp only [Act.put, List.setIfInBounds_toArray, List.set_cons_zero, List.set_cons_succ]
      refine wpAnyH_take (i := 3) (oi := ⟨some 41, _, _, _, _, _⟩) (v := ?vg3_5) rfl (by kernel_rfl) (by kernel_rfl) (by kernel_rfl) (fun _ _ _ h => h) (Or.inl ⟨by rfl, ?yg3_5⟩) hHeld ?rg3_5
      case yg3_5 =>
        intro wq hSw
        (try dsimp only at hSw)
        have q0 := (hSw.cell (World.block_lt_of_cell? w2 _ H2.out.c2)).trans H2.out.c2
        first | (go_simp; done) | (go_simp; with_reducible rfl)
      try simp only [Act.put, List.setIfInBounds_toArray, List.set_cons_zero, List.set_cons_succ]
      refine wpAnyH_take (i := 4) (oi := ⟨some 42, _, _, _, _, _⟩) (v := ?vg4_6) rfl (by kernel_rfl) (by kernel_rfl) (by kernel_rfl) (fun _ _ _ h => h) (Or.inl ⟨by rfl, ?yg4_6⟩) hHeld ?rg4_6
      case yg4_6 =>
        intro wq hSw
        (try dsimp only at hSw)
        first | (go_simp; done) | (go_simp; with_reducible rfl)
      try simp only [Act.put, List.setIfInBounds_toArray, List.set_cons_zero, List.set_cons_succ]
      refine wpAnyH_take (i := 5) (oi := ⟨some 43, _, _, _, _, _⟩) (v := ?vg5_7) rfl (by kernel_rfl) (by kernel_rfl) (by kernel_rfl) (fun _ _ _ h => h) (Or.inl ⟨by rfl, ?yg5_7⟩) hHeld ?rg5_7
      case yg5_7 =>
        intro wq hSw
        (try dsimp only at hSw)
        first | (go_simp; done) | (go_simp; with_reducible rfl)
      try simp only [Act.put, List.setIfInBounds_toArray, List.set_cons_zero, List.set_cons_succ]
      refine wpAnyH_take (i := 7) (oi := ⟨some 45, _, _, _, _, _⟩) (v := ?vg7_8) rfl (by kernel_rfl) (by kernel_rfl) (by kernel_rfl) (fun _ _ _ h => h) (Or.inl ⟨by rfl, ?yg7_8⟩) hHeld ?rg7_8
      case yg7_8 =>
        intro wq hSw
        (try dsimp only at hSw)
        first | (go_simp; done) | (go_simp; with_reducible rfl)
      try simp only [Act.put, List.setIfInBounds_toArray, List.set_cons_zero, List.set_cons_succ]
      refine wpAnyH_take (i := 8) (oi := ⟨some 46, _, _, _, _, _⟩) (v := ?vg8_9) rfl (by kernel_rfl) (by kernel_rfl) (by kernel_rfl) (fun _ _ _ h => h) (Or.inl ⟨by rfl, ?yg8_9⟩) hHeld ?rg8_9
      case yg8_9 =>
        intro wq hSw
        (try dsimp only at hSw)
        first | (go_simp; done) | (go_simp; with_reducible rfl)
      try simp only [Act.put, List.setIfInBounds_toArray, List.set_cons_zero, List.set_cons_succ]
      refine wpAnyH_take (i := 9) (oi := ⟨some 47, _, _, _, _, _⟩) (v := ?vg9_10) rfl (by kernel_rfl) (by kernel_rfl) (by kernel_rfl) (fun _ _ _ h => h) (Or.inl ⟨by rfl, ?yg9_10⟩) hHeld ?rg9_10
      case yg9_10 =>
        intro wq hSw
        (try dsimp only at hSw)
        first | (go_simp; done) | (go_simp; with_reducible rfl)
      try simp only [Act.put, List.setIfInBounds_toArray, List.set_cons_zero, List.set_cons_succ]
      refine wpAnyH_take (i := 10) (oi := ⟨some 48, _, _, _, _, _⟩) (v := ?vg10_11) rfl (by kernel_rfl) (by kernel_rfl) (by kernel_rfl) (fun _ _ _ h => h) (Or.inl ⟨by rfl, ?yg10_11⟩) hHeld ?rg10_11
      case yg10_11 =>
        intro wq hSw
        (try dsimp only at hSw)
        first | (go_simp; done) | (go_simp; with_reducible rfl)
      try simp only [Act.put, List.setIfInBounds_toArray, List.set_cons_zero, List.set_cons_succ]
      refine wpAnyH_take (i := 11) (oi := ⟨some 49, _, _, _, _, _⟩) (v := ?vg11_12) rfl (by kernel_rfl) (by kernel_rfl) (by kernel_rfl) (fun _ _ _ h => h) (Or.inl ⟨by rfl, ?yg11_12⟩) hHeld ?rg11_12
      case yg11_12 =>
        intro wq hSw
        (try dsimp only at hSw)
        have q0 := (hSw.cell (World.block_lt_of_cell? w2 _ H2.out.c0)).trans H2.out.c0
        first | (go_simp; done) | (go_simp; with_reducible rfl)
      try simp only [Act.put, List.setIfInBounds_toArray, List.set_cons_zero, List.set_cons_succ]
      refine wpAnyH_ready (rs := [6, 12, 17]) (by kernel_rfl) (by simp) ?_
      refine AllReadyH.cons (o := ⟨some 44, _, _, _, _, _⟩) rfl (fun K hK => ?_) (AllReadyH.cons (o := ⟨some 50, _, _, _, _, _⟩) rfl (fun K hK => ?_) (AllReadyH.cons (o := ⟨some 6, _, _, _, _, _⟩) rfl (fun K hK => ?_) (AllReadyH.nil)))
      · go_simp
        have hbN : Below v_1.heap.size v_1 (v_1.alloc (.cells #[.int .u8 (IntKind.u8.wrap (I : Int))] 5)) := (Below.refl _ _).alloc (Nat.le_refl _) _
        have hx := heap_alloc_new v_1 (.cells #[.int .u8 (IntKind.u8.wrap (I : Int))] 5)
        have hz_14 : v_1.heap.size + 1 ≤ (v_1.alloc (.cells #[.int .u8 (IntKind.u8.wrap (I : Int))] 5)).heap.size ∧ (v_1.alloc (.cells #[.int .u8 (IntKind.u8.wrap (I : Int))] 5)).heap.size ≤ v_1.heap.size + 1 := by simp
        obtain ⟨v_13, hw⟩ : ∃ v_13, v_13 = v_1.alloc (.cells #[.int .u8 (IntKind.u8.wrap (I : Int))] 5) := ⟨_, rfl⟩
        rw [← hw] at hbN hx hz_14 ⊢
        clear hw
        have hHeld := hHeld.trans (hbN.mono hHeld.size)
        have hfN : Fr (fun _ => False) v_1 v_13 := Fr.of_below hbN
        clear hbN
        have bl_15 := Lib.hid hx
        clear hx
        refine hK.out _ _ hHeld (fun _ => ?_)
        clear hK K hfN
        try simp only [Act.put, List.setIfInBounds_toArray, List.set_cons_zero, List.set_cons_succ]
        refine wpAnyH_ready (rs := [12, 17]) (by kernel_rfl) (by simp) ?_
        refine AllReadyH.cons (o := ⟨some 50, _, _, _, _, _⟩) rfl (fun K hK => ?_) (AllReadyH.cons (o := ⟨some 6, _, _, _, _, _⟩) rfl (fun K hK => ?_) (AllReadyH.nil))
        · go_simp
          have hh := below_any k (by omega) v_13
          refine hh.mono ?_; clear hh; rintro e v_17 ⟨A2, n2, c2, rfl, hs2, hbN, hm2⟩
          obtain rfl : n2 = k := by
            have := hs2.len
            rw [cells_length, upto_length, Nat.mul_one] at this
            exact this.symm
          have hA2 : ∀ b o, A2 = some ⟨b, o, none⟩ → w2.heap.size ≤ b := fun b o e => by
            obtain ⟨g, cur, e', hg, _⟩ := hm2 H2.out.k1
            rw [e] at e'; injection e' with e'; injection e' with e' _
            have := hHeld.size
            omega
          have ys_18 := Lib.hid hs2
          clear hs2 hm2
          have hfN : Fr (fun _ => False) v_13 v_17 := Fr.of_below hbN
          have hH2 := hHeld.trans (hbN.mono hHeld.size)
          clear hbN
          go_wp2_with fail
          have hHeld := hH2
          clear hH2
          have hz_19 := hfN.size
          have bl_20 := Lib.hid (hfN.row_some bl_15.out (fun h => h))
          clear bl_15
          refine hK.out _ _ hHeld (fun _ => ?_)
          clear hK K hfN
          try simp only [Act.put, List.setIfInBounds_toArray, List.set_cons_zero, List.set_cons_succ]
          refine wpAnyH_ready (rs := [13, 17]) (by kernel_rfl) (by simp) ?_
          refine AllReadyH.cons (o := ⟨some 51, _, _, _, _, _⟩) rfl (fun K hK => ?_) (AllReadyH.cons (o := ⟨some 6, _, _, _, _, _⟩) rfl (fun K hK => ?_) (AllReadyH.nil))
          · go_simp
            have hh := cauchy1_any C n2 m F T I v_1.heap.size A2 c2 hlt' hI v_17 (H2.out.later hHeld) bl_20.out (by omega) ys_18.out (fun b o e => by have := hA2 b o e; omega)
            refine hh.mono ?_; clear hh; rintro e v_22 ⟨A6, n6, c6, rfl, hs6, hA6, hbN⟩
            have res_23 := Lib.hid hs6
            clear hs6
            have hfN : Fr (fun _ => False) v_17 v_22 := Fr.of_below hbN
            have hH2 := hHeld.trans (hbN.mono hHeld.size)
            clear hbN
            go_wp2_with fail
            have hHeld := hH2
            clear hH2
            have hz_24 := hfN.size
            have bl_25 := Lib.hid (hfN.row_some bl_20.out (fun h => h))
            clear bl_20
            have ys_26 := Lib.hid (ys_18.out.fr hfN (fun _ _ _ _ h => h))
            clear ys_18
            refine hK.out _ _ hHeld (fun _ => ?_)
            clear hK K hfN
            try simp only [Act.put, List.setIfInBounds_toArray, List.set_cons_zero, List.set_cons_succ]
            refine wpAnyH_take (i := 14) (oi := ⟨some 37, _, _, _, _, _⟩) (v := ?vg14_27) rfl (by kernel_rfl) (by kernel_rfl) (by kernel_rfl) (fun _ _ _ h => h) (Or.inl ⟨by rfl, ?yg14_27⟩) hHeld ?rg14_27
            case yg14_27 =>
              intro wq hSw
              (try dsimp only at hSw)
              first | (go_simp; done) | (go_simp; with_reducible rfl)
            try simp only [Act.put, List.setIfInBounds_toArray, List.set_cons_zero, List.set_cons_succ]
            refine wpAnyH_take (i := 15) (oi := ⟨some 52, _, _, _, _, _⟩) (v := ?vg15_28) rfl (by kernel_rfl) (by kernel_rfl) (by kernel_rfl) (fun _ _ _ h => h) (Or.inl ⟨by rfl, ?yg15_28⟩) hHeld ?rg15_28
            case yg15_28 =>
              intro wq hSw
              (try dsimp only at hSw)
              first | (go_simp; done) | (go_simp; with_reducible rfl)
            try simp only [Act.put, List.setIfInBounds_toArray, List.set_cons_zero, List.set_cons_succ]
            refine wpAnyH_take (i := 16) (oi := ⟨some 53, _, _, _, _, _⟩) (v := ?vg16_29) rfl (by kernel_rfl) (by kernel_rfl) (by kernel_rfl) (fun _ _ _ h => h) (Or.inl ⟨by rfl, ?yg16_29⟩) hHeld ?rg16_29
            case yg16_29 =>
              intro wq hSw
              (try dsimp only at hSw)
              first | (go_simp; done) | (go_simp; with_reducible rfl)
            try simp only [Act.put, List.setIfInBounds_toArray, List.set_cons_zero, List.set_cons_succ]
            refine wpAnyH_ready (rs := [17]) (by kernel_rfl) (by simp) ?_
            refine AllReadyH.cons (o := ⟨some 6, _, _, _, _, _⟩) rfl (fun K hK => ?_) (AllReadyH.nil)
            go_simp
            have hbN : Below v_22.heap.size v_22 (v_22.alloc (.cells #[.int .i64 0, .int .i64 0, .slice none 0 0] 111)) := (Below.refl _ _).alloc (Nat.le_refl _) _
            have hx := heap_alloc_new v_22 (.cells #[.int .i64 0, .int .i64 0, .slice none 0 0] 111)
            have hz_31 : v_22.heap.size + 1 ≤ (v_22.alloc (.cells #[.int .i64 0, .int .i64 0, .slice none 0 0] 111)).heap.size ∧ (v_22.alloc (.cells #[.int .i64 0, .int .i64 0, .slice none 0 0] 111)).heap.size ≤ v_22.heap.size + 1 := by simp
            obtain ⟨v_30, hw⟩ : ∃ v_30, v_30 = v_22.alloc (.cells #[.int .i64 0, .int .i64 0, .slice none 0 0] 111) := ⟨_, rfl⟩
            rw [← hw] at hbN hx hz_31 ⊢
            clear hw
            have hHeld := hHeld.trans (hbN.mono hHeld.size)
            have hfN : Fr (fun _ => False) v_22 v_30 := Fr.of_below hbN
            clear hbN
            have bl_32 := Lib.hid (hfN.row_some bl_25.out (fun h => h))
            clear bl_25
            have ys_33 := Lib.hid (ys_26.out.fr hfN (fun _ _ _ _ h => h))
            clear ys_26
            have res_34 := Lib.hid (res_23.out.fr hfN (fun _ _ _ _ h => h))
            clear res_23
            have bl_35 := Lib.hid hx
            clear hx
            refine hK.out _ _ hHeld (fun _ => ?_)
            clear hK K hfN
            try simp only [Act.put, List.setIfInBounds_toArray, List.set_cons_zero, List.set_cons_succ]
            refine wpAnyH_ready (rs := [18]) (by kernel_rfl) (by simp) ?_
            refine AllReadyH.cons (o := ⟨none, _, _, _, _, _⟩) rfl (fun K hK => ?_) (AllReadyH.nil)
            have q0 := box0_0 bl_35.out; have q1 := box0_1 bl_35.out; have q2 := box0_2 bl_35.out
            have u0 := box0_free bl_35.out 0; have u1 := box0_free bl_35.out 1; have u2 := box0_free bl_35.out 2
            go_simp
            have hx := box0_set (r := 1) (c := (n2 : Int)) (A := A6) (n := n6) (cp := c6) bl_35.out
            have hfN := box0_fr v_30 (v_22.heap.size) 1 (n2 : Int) A6 n6 c6
            have hHeld := hHeld.trans (hfN.below hHeld.size (fun k hk => by have hk : k = v_22.heap.size := hk; omega) |> fun q => q)
            have hz_37 : v_30.heap.size ≤ (((v_30.setCell ⟨v_22.heap.size, 0, none⟩ (.int .i64 1)).setCell ⟨v_22.heap.size, 1, none⟩ (.int .i64 (n2 : Int))).setCell ⟨v_22.heap.size, 2, none⟩ (.slice A6 n6 c6)).heap.size ∧ (((v_30.setCell ⟨v_22.heap.size, 0, none⟩ (.int .i64 1)).setCell ⟨v_22.heap.size, 1, none⟩ (.int .i64 (n2 : Int))).setCell ⟨v_22.heap.size, 2, none⟩ (.slice A6 n6 c6)).heap.size ≤ v_30.heap.size := by simp
            obtain ⟨v_36, hw⟩ : ∃ v_36, v_36 = (((v_30.setCell ⟨v_22.heap.size, 0, none⟩ (.int .i64 1)).setCell ⟨v_22.heap.size, 1, none⟩ (.int .i64 (n2 : Int))).setCell ⟨v_22.heap.size, 2, none⟩ (.slice A6 n6 c6)) := ⟨_, rfl⟩
            rw [← hw] at hHeld hx hfN hz_37 ⊢
            clear hw q0 q1 q2 u0 u1 u2
            have bl_38 := Lib.hid (hfN.row_some bl_32.out (fun h => by have h : v_1.heap.size = v_22.heap.size := h; omega))
            clear bl_32
            have ys_39 := Lib.hid (trivial)
            clear ys_33
            have res_40 := Lib.hid (res_34.out.fr hfN (fun b o hn hA hk => by have hk : b = v_22.heap.size := hk; have := hA6 b o hA; omega))
            clear res_34
            clear bl_35
            have bl_41 := Lib.hid hx
            clear hx
            refine hK.out _ _ hHeld (fun _ => ?_)
            clear hK K hfN
            try simp only [Act.put, List.setIfInBounds_toArray, List.set_cons_zero, List.set_cons_succ]
            refine wpAnyH_take (i := 19) (oi := ⟨some 7, _, _, _, _, _⟩) (v := ?vg19_42) rfl (by kernel_rfl) (by kernel_rfl) (by kernel_rfl) (fun _ _ _ h => h) (Or.inl ⟨by rfl, ?yg19_42⟩) hHeld ?rg19_42
            case yg19_42 =>
              intro wq hSw
              (try dsimp only at hSw)
              first | (go_simp; done) | (go_simp; with_reducible rfl)
            try simp only [Act.put, List.setIfInBounds_toArray, List.set_cons_zero, List.set_cons_succ]
            refine wpAnyH_done (by kernel_rfl) ?_ _
            have q2 := boxM_2 bl_41.out
            go_wp2_with fail
            go_ret
            exact ⟨A6, n6, c6, rfl, res_40.out, Hb.out.trans (hHeld.mono hsz2)⟩
          · go_simp
            have hbN : Below v_17.heap.size v_17 (v_17.alloc (.cells #[.int .i64 0, .int .i64 0, .slice none 0 0] 111)) := (Below.refl _ _).alloc (Nat.le_refl _) _
            have hx := heap_alloc_new v_17 (.cells #[.int .i64 0, .int .i64 0, .slice none 0 0] 111)
            have hz_44 : v_17.heap.size + 1 ≤ (v_17.alloc (.cells #[.int .i64 0, .int .i64 0, .slice none 0 0] 111)).heap.size ∧ (v_17.alloc (.cells #[.int .i64 0, .int .i64 0, .slice none 0 0] 111)).heap.size ≤ v_17.heap.size + 1 := by simp
            obtain ⟨v_43, hw⟩ : ∃ v_43, v_43 = v_17.alloc (.cells #[.int .i64 0, .int .i64 0, .slice none 0 0] 111) := ⟨_, rfl⟩
            rw [← hw] at hbN hx hz_44 ⊢
            clear hw
            have hHeld := hHeld.trans (hbN.mono hHeld.size)
            have hfN : Fr (fun _ => False) v_17 v_43 := Fr.of_below hbN
            clear hbN
            have bl_45 := Lib.hid (hfN.row_some bl_20.out (fun h => h))
            clear bl_20
            have ys_46 := Lib.hid (ys_18.out.fr hfN (fun _ _ _ _ h => h))
            clear ys_18
            have bl_47 := Lib.hid hx
            clear hx
            refine hK.out _ _ hHeld (fun _ => ?_)
            clear hK K hfN
            try simp only [Act.put, List.setIfInBounds_toArray, List.set_cons_zero, List.set_cons_succ]
            refine wpAnyH_ready (rs := [13]) (by kernel_rfl) (by simp) ?_
            refine AllReadyH.cons (o := ⟨some 51, _, _, _, _, _⟩) rfl (fun K hK => ?_) (AllReadyH.nil)
            go_simp
            have hh := cauchy1_any C n2 m F T I v_1.heap.size A2 c2 hlt' hI v_43 (H2.out.later hHeld) bl_45.out (by omega) ys_46.out (fun b o e => by have := hA2 b o e; omega)
            refine hh.mono ?_; clear hh; rintro e v_49 ⟨A6, n6, c6, rfl, hs6, hA6, hbN⟩
            have res_50 := Lib.hid hs6
            clear hs6
            have hfN : Fr (fun _ => False) v_43 v_49 := Fr.of_below hbN
            have hH2 := hHeld.trans (hbN.mono hHeld.size)
            clear hbN
            go_wp2_with fail
            have hHeld := hH2
            clear hH2
            have hz_51 := hfN.size
            have bl_52 := Lib.hid (hfN.row_some bl_45.out (fun h => h))
            clear bl_45
            have ys_53 := Lib.hid (ys_46.out.fr hfN (fun _ _ _ _ h => h))
            clear ys_46
            have bl_54 := Lib.hid (hfN.row_some bl_47.out (fun h => h))
            clear bl_47
            refine hK.out _ _ hHeld (fun _ => ?_)
            clear hK K hfN
            try simp only [Act.put, List.setIfInBounds_toArray, List.set_cons_zero, List.set_cons_succ]
            refine wpAnyH_take (i := 14) (oi := ⟨some 37, _, _, _, _, _⟩) (v := ?vg14_55) rfl (by kernel_rfl) (by kernel_rfl) (by kernel_rfl) (fun _ _ _ h => h) (Or.inl ⟨by rfl, ?yg14_55⟩) hHeld ?rg14_55
            case yg14_55 =>
              intro wq hSw
              (try dsimp only at hSw)
              first | (go_simp; done) | (go_simp; with_reducible rfl)
            try simp only [Act.put, List.setIfInBounds_toArray, List.set_cons_zero, List.set_cons_succ]
            refine wpAnyH_take (i := 15) (oi := ⟨some 52, _, _, _, _, _⟩) (v := ?vg15_56) rfl (by kernel_rfl) (by kernel_rfl) (by kernel_rfl) (fun _ _ _ h => h) (Or.inl ⟨by rfl, ?yg15_56⟩) hHeld ?rg15_56
            case yg15_56 =>
              intro wq hSw
              (try dsimp only at hSw)
              first | (go_simp; done) | (go_simp; with_reducible rfl)
            try simp only [Act.put, List.setIfInBounds_toArray, List.set_cons_zero, List.set_cons_succ]
            refine wpAnyH_take (i := 16) (oi := ⟨some 53, _, _, _, _, _⟩) (v := ?vg16_57) rfl (by kernel_rfl) (by kernel_rfl) (by kernel_rfl) (fun _ _ _ h => h) (Or.inl ⟨by rfl, ?yg16_57⟩) hHeld ?rg16_57
            case yg16_57 =>
              intro wq hSw
              (try dsimp only at hSw)
              first | (go_simp; done) | (go_simp; with_reducible rfl)
            try simp only [Act.put, List.setIfInBounds_toArray, List.set_cons_zero, List.set_cons_succ]
            refine wpAnyH_ready (rs := [18]) (by kernel_rfl) (by simp) ?_
            refine AllReadyH.cons (o := ⟨none, _, _, _, _, _⟩) rfl (fun K hK => ?_) (AllReadyH.nil)
            have q0 := box0_0 bl_54.out; have q1 := box0_1 bl_54.out; have q2 := box0_2 bl_54.out
            have u0 := box0_free bl_54.out 0; have u1 := box0_free bl_54.out 1; have u2 := box0_free bl_54.out 2
            go_simp
            have hx := box0_set (r := 1) (c := (n2 : Int)) (A := A6) (n := n6) (cp := c6) bl_54.out
            have hfN := box0_fr v_49 (v_17.heap.size) 1 (n2 : Int) A6 n6 c6
            have hHeld := hHeld.trans (hfN.below hHeld.size (fun k hk => by have hk : k = v_17.heap.size := hk; omega) |> fun q => q)
            have hz_59 : v_49.heap.size ≤ (((v_49.setCell ⟨v_17.heap.size, 0, none⟩ (.int .i64 1)).setCell ⟨v_17.heap.size, 1, none⟩ (.int .i64 (n2 : Int))).setCell ⟨v_17.heap.size, 2, none⟩ (.slice A6 n6 c6)).heap.size ∧ (((v_49.setCell ⟨v_17.heap.size, 0, none⟩ (.int .i64 1)).setCell ⟨v_17.heap.size, 1, none⟩ (.int .i64 (n2 : Int))).setCell ⟨v_17.heap.size, 2, none⟩ (.slice A6 n6 c6)).heap.size ≤ v_49.heap.size := by simp
            obtain ⟨v_58, hw⟩ : ∃ v_58, v_58 = (((v_49.setCell ⟨v_17.heap.size, 0, none⟩ (.int .i64 1)).setCell ⟨v_17.heap.size, 1, none⟩ (.int .i64 (n2 : Int))).setCell ⟨v_17.heap.size, 2, none⟩ (.slice A6 n6 c6)) := ⟨_, rfl⟩
            rw [← hw] at hHeld hx hfN hz_59 ⊢
            clear hw q0 q1 q2 u0 u1 u2
            have bl_60 := Lib.hid (hfN.row_some bl_52.out (fun h => by have h : v_1.heap.size = v_17.heap.size := h; omega))
            clear bl_52
            have ys_61 := Lib.hid (trivial)
            clear ys_53
            clear bl_54
            have res_62 := Lib.hid (res_50.out.fr hfN (fun b o hn hA hk => by have hk : b = v_17.heap.size := hk; have := hA6 b o hA; omega))
            clear res_50
            have bl_63 := Lib.hid hx
            clear hx
            refine hK.out _ _ hHeld (fun _ => ?_)
            clear hK K hfN
            try simp only [Act.put, List.setIfInBounds_toArray, List.set_cons_zero, List.set_cons_succ]
            refine wpAnyH_take (i := 19) (oi := ⟨some 7, _, _, _, _, _⟩) (v := ?vg19_64) rfl (by kernel_rfl) (by kernel_rfl) (by kernel_rfl) (fun _ _ _ h => h) (Or.inl ⟨by rfl, ?yg19_64⟩) hHeld ?rg19_64
            case yg19_64 =>
              intro wq hSw
              (try dsimp only at hSw)
              first | (go_simp; done) | (go_simp; with_reducible rfl)
            try simp only [Act.put, List.setIfInBounds_toArray, List.set_cons_zero, List.set_cons_succ]
            refine wpAnyH_done (by kernel_rfl) ?_ _
            have q2 := boxM_2 bl_63.out
            go_wp2_with fail
            go_ret
            exact ⟨A6, n6, c6, rfl, res_62.out, Hb.out.trans (hHeld.mono hsz2)⟩
        · go_simp
          have hbN : Below v_13.heap.size v_13 (v_13.alloc (.cells #[.int .i64 0, .int .i64 0, .slice none 0 0] 111)) := (Below.refl _ _).alloc (Nat.le_refl _) _
          have hx := heap_alloc_new v_13 (.cells #[.int .i64 0, .int .i64 0, .slice none 0 0] 111)
          have hz_66 : v_13.heap.size + 1 ≤ (v_13.alloc (.cells #[.int .i64 0, .int .i64 0, .slice none 0 0] 111)).heap.size ∧ (v_13.alloc (.cells #[.int .i64 0, .int .i64 0, .slice none 0 0] 111)).heap.size ≤ v_13.heap.size + 1 := by simp
          obtain ⟨v_65, hw⟩ : ∃ v_65, v_65 = v_13.alloc (.cells #[.int .i64 0, .int .i64 0, .slice none 0 0] 111) := ⟨_, rfl⟩
          rw [← hw] at hbN hx hz_66 ⊢
          clear hw
          have hHeld := hHeld.trans (hbN.mono hHeld.size)
          have hfN : Fr (fun _ => False) v_13 v_65 := Fr.of_below hbN
          clear hbN
          have bl_67 := Lib.hid (hfN.row_some bl_15.out (fun h => h))
          clear bl_15
          have bl_68 := Lib.hid hx
          clear hx
          refine hK.out _ _ hHeld (fun _ => ?_)
          clear hK K hfN
          try simp only [Act.put, List.setIfInBounds_toArray, List.set_cons_zero, List.set_cons_succ]
          refine wpAnyH_ready (rs := [12]) (by kernel_rfl) (by simp) ?_
          refine AllReadyH.cons (o := ⟨some 50, _, _, _, _, _⟩) rfl (fun K hK => ?_) (AllReadyH.nil)
          go_simp
          have hh := below_any k (by omega) v_65
          refine hh.mono ?_; clear hh; rintro e v_70 ⟨A2, n2, c2, rfl, hs2, hbN, hm2⟩
          obtain rfl : n2 = k := by
            have := hs2.len
            rw [cells_length, upto_length, Nat.mul_one] at this
            exact this.symm
          have hA2 : ∀ b o, A2 = some ⟨b, o, none⟩ → w2.heap.size ≤ b := fun b o e => by
            obtain ⟨g, cur, e', hg, _⟩ := hm2 H2.out.k1
            rw [e] at e'; injection e' with e'; injection e' with e' _
            have := hHeld.size
            omega
          have ys_71 := Lib.hid hs2
          clear hs2 hm2
          have hfN : Fr (fun _ => False) v_65 v_70 := Fr.of_below hbN
          have hH2 := hHeld.trans (hbN.mono hHeld.size)
          clear hbN
          go_wp2_with fail
          have hHeld := hH2
          clear hH2
          have hz_72 := hfN.size
          have bl_73 := Lib.hid (hfN.row_some bl_67.out (fun h => h))
          clear bl_67
          have bl_74 := Lib.hid (hfN.row_some bl_68.out (fun h => h))
          clear bl_68
          refine hK.out _ _ hHeld (fun _ => ?_)
          clear hK K hfN
          try simp only [Act.put, List.setIfInBounds_toArray, List.set_cons_zero, List.set_cons_succ]
          refine wpAnyH_ready (rs := [13]) (by kernel_rfl) (by simp) ?_
          refine AllReadyH.cons (o := ⟨some 51, _, _, _, _, _⟩) rfl (fun K hK => ?_) (AllReadyH.nil)
          go_simp
          have hh := cauchy1_any C n2 m F T I v_1.heap.size A2 c2 hlt' hI v_70 (H2.out.later hHeld) bl_73.out (by omega) ys_71.out (fun b o e => by have := hA2 b o e; omega)
          refine hh.mono ?_; clear hh; rintro e v_76 ⟨A6, n6, c6, rfl, hs6, hA6, hbN⟩
          have res_77 := Lib.hid hs6
          clear hs6
          have hfN : Fr (fun _ => False) v_70 v_76 := Fr.of_below hbN
          have hH2 := hHeld.trans (hbN.mono hHeld.size)
          clear hbN
          go_wp2_with fail
          have hHeld := hH2
          clear hH2
          have hz_78 := hfN.size
          have bl_79 := Lib.hid (hfN.row_some bl_73.out (fun h => h))
          clear bl_73
          have bl_80 := Lib.hid (hfN.row_some bl_74.out (fun h => h))
          clear bl_74
          have ys_81 := Lib.hid (ys_71.out.fr hfN (fun _ _ _ _ h => h))
          clear ys_71
          refine hK.out _ _ hHeld (fun _ => ?_)
          clear hK K hfN
          try simp only [Act.put, List.setIfInBounds_toArray, List.set_cons_zero, List.set_cons_succ]
          refine wpAnyH_take (i := 14) (oi := ⟨some 37, _, _, _, _, _⟩) (v := ?vg14_82) rfl (by kernel_rfl) (by kernel_rfl) (by kernel_rfl) (fun _ _ _ h => h) (Or.inl ⟨by rfl, ?yg14_82⟩) hHeld ?rg14_82
          case yg14_82 =>
            intro wq hSw
            (try dsimp only at hSw)
            first | (go_simp; done) | (go_simp; with_reducible rfl)
          try simp only [Act.put, List.setIfInBounds_toArray, List.set_cons_zero, List.set_cons_succ]
          refine wpAnyH_take (i := 15) (oi := ⟨some 52, _, _, _, _, _⟩) (v := ?vg15_83) rfl (by kernel_rfl) (by kernel_rfl) (by kernel_rfl) (fun _ _ _ h => h) (Or.inl ⟨by rfl, ?yg15_83⟩) hHeld ?rg15_83
          case yg15_83 =>
            intro wq hSw
            (try dsimp only at hSw)
            first | (go_simp; done) | (go_simp; with_reducible rfl)
          try simp only [Act.put, List.setIfInBounds_toArray, List.set_cons_zero, List.set_cons_succ]
          refine wpAnyH_take (i := 16) (oi := ⟨some 53, _, _, _, _, _⟩) (v := ?vg16_84) rfl (by kernel_rfl) (by kernel_rfl) (by kernel_rfl) (fun _ _ _ h => h) (Or.inl ⟨by rfl, ?yg16_84⟩) hHeld ?rg16_84
          case yg16_84 =>
            intro wq hSw
            (try dsimp only at hSw)
            first | (go_simp; done) | (go_simp; with_reducible rfl)
          try simp only [Act.put, List.setIfInBounds_toArray, List.set_cons_zero, List.set_cons_succ]
          refine wpAnyH_ready (rs := [18]) (by kernel_rfl) (by simp) ?_
          refine AllReadyH.cons (o := ⟨none, _, _, _, _, _⟩) rfl (fun K hK => ?_) (AllReadyH.nil)
          have q0 := box0_0 bl_80.out; have q1 := box0_1 bl_80.out; have q2 := box0_2 bl_80.out
          have u0 := box0_free bl_80.out 0; have u1 := box0_free bl_80.out 1; have u2 := box0_free bl_80.out 2
          go_simp
          have hx := box0_set (r := 1) (c := (n2 : Int)) (A := A6) (n := n6) (cp := c6) bl_80.out
          have hfN := box0_fr v_76 (v_13.heap.size) 1 (n2 : Int) A6 n6 c6
          have hHeld := hHeld.trans (hfN.below hHeld.size (fun k hk => by have hk : k = v_13.heap.size := hk; omega) |> fun q => q)
          have hz_86 : v_76.heap.size ≤ (((v_76.setCell ⟨v_13.heap.size, 0, none⟩ (.int .i64 1)).setCell ⟨v_13.heap.size, 1, none⟩ (.int .i64 (n2 : Int))).setCell ⟨v_13.heap.size, 2, none⟩ (.slice A6 n6 c6)).heap.size ∧ (((v_76.setCell ⟨v_13.heap.size, 0, none⟩ (.int .i64 1)).setCell ⟨v_13.heap.size, 1, none⟩ (.int .i64 (n2 : Int))).setCell ⟨v_13.heap.size, 2, none⟩ (.slice A6 n6 c6)).heap.size ≤ v_76.heap.size := by simp
          obtain ⟨v_85, hw⟩ : ∃ v_85, v_85 = (((v_76.setCell ⟨v_13.heap.size, 0, none⟩ (.int .i64 1)).setCell ⟨v_13.heap.size, 1, none⟩ (.int .i64 (n2 : Int))).setCell ⟨v_13.heap.size, 2, none⟩ (.slice A6 n6 c6)) := ⟨_, rfl⟩
          rw [← hw] at hHeld hx hfN hz_86 ⊢
          clear hw q0 q1 q2 u0 u1 u2
          have bl_87 := Lib.hid (hfN.row_some bl_79.out (fun h => by have h : v_1.heap.size = v_13.heap.size := h; omega))
          clear bl_79
          clear bl_80
          have ys_88 := Lib.hid (trivial)
          clear ys_81
          have res_89 := Lib.hid (res_77.out.fr hfN (fun b o hn hA hk => by have hk : b = v_13.heap.size := hk; have := hA6 b o hA; omega))
          clear res_77
          have bl_90 := Lib.hid hx
          clear hx
          refine hK.out _ _ hHeld (fun _ => ?_)
          clear hK K hfN
          try simp only [Act.put, List.setIfInBounds_toArray, List.set_cons_zero, List.set_cons_succ]
          refine wpAnyH_take (i := 19) (oi := ⟨some 7, _, _, _, _, _⟩) (v := ?vg19_91) rfl (by kernel_rfl) (by kernel_rfl) (by kernel_rfl) (fun _ _ _ h => h) (Or.inl ⟨by rfl, ?yg19_91⟩) hHeld ?rg19_91
          case yg19_91 =>
            intro wq hSw
            (try dsimp only at hSw)
            first | (go_simp; done) | (go_simp; with_reducible rfl)
          try simp only [Act.put, List.setIfInBounds_toArray, List.set_cons_zero, List.set_cons_succ]
          refine wpAnyH_done (by kernel_rfl) ?_ _
          have q2 := boxM_2 bl_90.out
          go_wp2_with fail
          go_ret
          exact ⟨A6, n6, c6, rfl, res_89.out, Hb.out.trans (hHeld.mono hsz2)⟩
      · go_simp
        have hh := below_any k (by omega) v_1
        refine hh.mono ?_; clear hh; rintro e v_93 ⟨A2, n2, c2, rfl, hs2, hbN, hm2⟩
        obtain rfl : n2 = k := by
          have := hs2.len
          rw [cells_length, upto_length, Nat.mul_one] at this
          exact this.symm
        have hA2 : ∀ b o, A2 = some ⟨b, o, none⟩ → w2.heap.size ≤ b := fun b o e => by
          obtain ⟨g, cur, e', hg, _⟩ := hm2 H2.out.k1
          rw [e] at e'; injection e' with e'; injection e' with e' _
          have := hHeld.size
          omega
        have ys_94 := Lib.hid hs2
        clear hs2 hm2
        have hfN : Fr (fun _ => False) v_1 v_93 := Fr.of_below hbN
        have hH2 := hHeld.trans (hbN.mono hHeld.size)
        clear hbN
        go_wp2_with fail
        have hHeld := hH2
        clear hH2
        have hz_95 := hfN.size
        refine hK.out _ _ hHeld (fun _ => ?_)
        clear hK K hfN
        try simp only [Act.put, List.setIfInBounds_toArray, List.set_cons_zero, List.set_cons_succ]
        refine wpAnyH_ready (rs := [6, 17]) (by kernel_rfl) (by simp) ?_
        refine AllReadyH.cons (o := ⟨some 44, _, _, _, _, _⟩) rfl (fun K hK => ?_) (AllReadyH.cons (o := ⟨some 6, _, _, _, _, _⟩) rfl (fun K hK => ?_) (AllReadyH.nil))
        · go_simp
          have hbN : Below v_93.heap.size v_93 (v_93.alloc (.cells #[.int .u8 (IntKind.u8.wrap (I : Int))] 5)) := (Below.refl _ _).alloc (Nat.le_refl _) _
          have hx := heap_alloc_new v_93 (.cells #[.int .u8 (IntKind.u8.wrap (I : Int))] 5)
          have hz_97 : v_93.heap.size + 1 ≤ (v_93.alloc (.cells #[.int .u8 (IntKind.u8.wrap (I : Int))] 5)).heap.size ∧ (v_93.alloc (.cells #[.int .u8 (IntKind.u8.wrap (I : Int))] 5)).heap.size ≤ v_93.heap.size + 1 := by simp
          obtain ⟨v_96, hw⟩ : ∃ v_96, v_96 = v_93.alloc (.cells #[.int .u8 (IntKind.u8.wrap (I : Int))] 5) := ⟨_, rfl⟩
          rw [← hw] at hbN hx hz_97 ⊢
          clear hw
          have hHeld := hHeld.trans (hbN.mono hHeld.size)
          have hfN : Fr (fun _ => False) v_93 v_96 := Fr.of_below hbN
          clear hbN
          have ys_98 := Lib.hid (ys_94.out.fr hfN (fun _ _ _ _ h => h))
          clear ys_94
          have bl_99 := Lib.hid hx
          clear hx
          refine hK.out _ _ hHeld (fun _ => ?_)
          clear hK K hfN
          try simp only [Act.put, List.setIfInBounds_toArray, List.set_cons_zero, List.set_cons_succ]
          refine wpAnyH_ready (rs := [13, 17]) (by kernel_rfl) (by simp) ?_
          refine AllReadyH.cons (o := ⟨some 51, _, _, _, _, _⟩) rfl (fun K hK => ?_) (AllReadyH.cons (o := ⟨some 6, _, _, _, _, _⟩) rfl (fun K hK => ?_) (AllReadyH.nil))
          · go_simp
            have hh := cauchy1_any C n2 m F T I v_93.heap.size A2 c2 hlt' hI v_96 (H2.out.later hHeld) bl_99.out (by omega) ys_98.out (fun b o e => by have := hA2 b o e; omega)
            refine hh.mono ?_; clear hh; rintro e v_101 ⟨A6, n6, c6, rfl, hs6, hA6, hbN⟩
            have res_102 := Lib.hid hs6
            clear hs6
            have hfN : Fr (fun _ => False) v_96 v_101 := Fr.of_below hbN
            have hH2 := hHeld.trans (hbN.mono hHeld.size)
            clear hbN
            go_wp2_with fail
            have hHeld := hH2
            clear hH2
            have hz_103 := hfN.size
            have ys_104 := Lib.hid (ys_98.out.fr hfN (fun _ _ _ _ h => h))
            clear ys_98
            have bl_105 := Lib.hid (hfN.row_some bl_99.out (fun h => h))
            clear bl_99
            refine hK.out _ _ hHeld (fun _ => ?_)
            clear hK K hfN
            try simp only [Act.put, List.setIfInBounds_toArray, List.set_cons_zero, List.set_cons_succ]
            refine wpAnyH_take (i := 14) (oi := ⟨some 37, _, _, _, _, _⟩) (v := ?vg14_106) rfl (by kernel_rfl) (by kernel_rfl) (by kernel_rfl) (fun _ _ _ h => h) (Or.inl ⟨by rfl, ?yg14_106⟩) hHeld ?rg14_106
            case yg14_106 =>
              intro wq hSw
              (try dsimp only at hSw)
              first | (go_simp; done) | (go_simp; with_reducible rfl)
            try simp only [Act.put, List.setIfInBounds_toArray, List.set_cons_zero, List.set_cons_succ]
            refine wpAnyH_take (i := 15) (oi := ⟨some 52, _, _, _, _, _⟩) (v := ?vg15_107) rfl (by kernel_rfl) (by kernel_rfl) (by kernel_rfl) (fun _ _ _ h => h) (Or.inl ⟨by rfl, ?yg15_107⟩) hHeld ?rg15_107
            case yg15_107 =>
              intro wq hSw
              (try dsimp only at hSw)
              first | (go_simp; done) | (go_simp; with_reducible rfl)
            try simp only [Act.put, List.setIfInBounds_toArray, List.set_cons_zero, List.set_cons_succ]
            refine wpAnyH_take (i := 16) (oi := ⟨some 53, _, _, _, _, _⟩) (v := ?vg16_108) rfl (by kernel_rfl) (by kernel_rfl) (by kernel_rfl) (fun _ _ _ h => h) (Or.inl ⟨by rfl, ?yg16_108⟩) hHeld ?rg16_108
            case yg16_108 =>
              intro wq hSw
              (try dsimp only at hSw)
              first | (go_simp; done) | (go_simp; with_reducible rfl)
            try simp only [Act.put, List.setIfInBounds_toArray, List.set_cons_zero, List.set_cons_succ]
            refine wpAnyH_ready (rs := [17]) (by kernel_rfl) (by simp) ?_
            refine AllReadyH.cons (o := ⟨some 6, _, _, _, _, _⟩) rfl (fun K hK => ?_) (AllReadyH.nil)
            go_simp
            have hbN : Below v_101.heap.size v_101 (v_101.alloc (.cells #[.int .i64 0, .int .i64 0, .slice none 0 0] 111)) := (Below.refl _ _).alloc (Nat.le_refl _) _
            have hx := heap_alloc_new v_101 (.cells #[.int .i64 0, .int .i64 0, .slice none 0 0] 111)
            have hz_110 : v_101.heap.size + 1 ≤ (v_101.alloc (.cells #[.int .i64 0, .int .i64 0, .slice none 0 0] 111)).heap.size ∧ (v_101.alloc (.cells #[.int .i64 0, .int .i64 0, .slice none 0 0] 111)).heap.size ≤ v_101.heap.size + 1 := by simp
            obtain ⟨v_109, hw⟩ : ∃ v_109, v_109 = v_101.alloc (.cells #[.int .i64 0, .int .i64 0, .slice none 0 0] 111) := ⟨_, rfl⟩
            rw [← hw] at hbN hx hz_110 ⊢
            clear hw
            have hHeld := hHeld.trans (hbN.mono hHeld.size)
            have hfN : Fr (fun _ => False) v_101 v_109 := Fr.of_below hbN
            clear hbN
            have ys_111 := Lib.hid (ys_104.out.fr hfN (fun _ _ _ _ h => h))
            clear ys_104
            have bl_112 := Lib.hid (hfN.row_some bl_105.out (fun h => h))
            clear bl_105
            have res_113 := Lib.hid (res_102.out.fr hfN (fun _ _ _ _ h => h))
            clear res_102
            have bl_114 := Lib.hid hx
            clear hx
            refine hK.out _ _ hHeld (fun _ => ?_)
            clear hK K hfN
            try simp only [Act.put, List.setIfInBounds_toArray, List.set_cons_zero, List.set_cons_succ]
            refine wpAnyH_ready (rs := [18]) (by kernel_rfl) (by simp) ?_
            refine AllReadyH.cons (o := ⟨none, _, _, _, _, _⟩) rfl (fun K hK => ?_) (AllReadyH.nil)
            have q0 := box0_0 bl_114.out; have q1 := box0_1 bl_114.out; have q2 := box0_2 bl_114.out
            have u0 := box0_free bl_114.out 0; have u1 := box0_free bl_114.out 1; have u2 := box0_free bl_114.out 2
            go_simp
            have hx := box0_set (r := 1) (c := (n2 : Int)) (A := A6) (n := n6) (cp := c6) bl_114.out
            have hfN := box0_fr v_109 (v_101.heap.size) 1 (n2 : Int) A6 n6 c6
            have hHeld := hHeld.trans (hfN.below hHeld.size (fun k hk => by have hk : k = v_101.heap.size := hk; omega) |> fun q => q)
            have hz_116 : v_109.heap.size ≤ (((v_109.setCell ⟨v_101.heap.size, 0, none⟩ (.int .i64 1)).setCell ⟨v_101.heap.size, 1, none⟩ (.int .i64 (n2 : Int))).setCell ⟨v_101.heap.size, 2, none⟩ (.slice A6 n6 c6)).heap.size ∧ (((v_109.setCell ⟨v_101.heap.size, 0, none⟩ (.int .i64 1)).setCell ⟨v_101.heap.size, 1, none⟩ (.int .i64 (n2 : Int))).setCell ⟨v_101.heap.size, 2, none⟩ (.slice A6 n6 c6)).heap.size ≤ v_109.heap.size := by simp
            obtain ⟨v_115, hw⟩ : ∃ v_115, v_115 = (((v_109.setCell ⟨v_101.heap.size, 0, none⟩ (.int .i64 1)).setCell ⟨v_101.heap.size, 1, none⟩ (.int .i64 (n2 : Int))).setCell ⟨v_101.heap.size, 2, none⟩ (.slice A6 n6 c6)) := ⟨_, rfl⟩
            rw [← hw] at hHeld hx hfN hz_116 ⊢
            clear hw q0 q1 q2 u0 u1 u2
            have ys_117 := Lib.hid (trivial)
            clear ys_111
            have bl_118 := Lib.hid (hfN.row_some bl_112.out (fun h => by have h : v_93.heap.size = v_101.heap.size := h; omega))
            clear bl_112
            have res_119 := Lib.hid (res_113.out.fr hfN (fun b o hn hA hk => by have hk : b = v_101.heap.size := hk; have := hA6 b o hA; omega))
            clear res_113
            clear bl_114
            have bl_120 := Lib.hid hx
            clear hx
            refine hK.out _ _ hHeld (fun _ => ?_)
            clear hK K hfN
            try simp only [Act.put, List.setIfInBounds_toArray, List.set_cons_zero, List.set_cons_succ]
            refine wpAnyH_take (i := 19) (oi := ⟨some 7, _, _, _, _, _⟩) (v := ?vg19_121) rfl (by kernel_rfl) (by kernel_rfl) (by kernel_rfl) (fun _ _ _ h => h) (Or.inl ⟨by rfl, ?yg19_121⟩) hHeld ?rg19_121
            case yg19_121 =>
              intro wq hSw
              (try dsimp only at hSw)
              first | (go_simp; done) | (go_simp; with_reducible rfl)
            try simp only [Act.put, List.setIfInBounds_toArray, List.set_cons_zero, List.set_cons_succ]
            refine wpAnyH_done (by kernel_rfl) ?_ _
            have q2 := boxM_2 bl_120.out
            go_wp2_with fail
            go_ret
            exact ⟨A6, n6, c6, rfl, res_119.out, Hb.out.trans (hHeld.mono hsz2)⟩
          · go_simp
            have hbN : Below v_96.heap.size v_96 (v_96.alloc (.cells #[.int .i64 0, .int .i64 0, .slice none 0 0] 111)) := (Below.refl _ _).alloc (Nat.le_refl _) _
            have hx := heap_alloc_new v_96 (.cells #[.int .i64 0, .int .i64 0, .slice none 0 0] 111)
            have hz_123 : v_96.heap.size + 1 ≤ (v_96.alloc (.cells #[.int .i64 0, .int .i64 0, .slice none 0 0] 111)).heap.size ∧ (v_96.alloc (.cells #[.int .i64 0, .int .i64 0, .slice none 0 0] 111)).heap.size ≤ v_96.heap.size + 1 := by simp
            obtain ⟨v_122, hw⟩ : ∃ v_122, v_122 = v_96.alloc (.cells #[.int .i64 0, .int .i64 0, .slice none 0 0] 111) := ⟨_, rfl⟩
            rw [← hw] at hbN hx hz_123 ⊢
            clear hw
            have hHeld := hHeld.trans (hbN.mono hHeld.size)
            have hfN : Fr (fun _ => False) v_96 v_122 := Fr.of_below hbN
            clear hbN
            have ys_124 := Lib.hid (ys_98.out.fr hfN (fun _ _ _ _ h => h))
            clear ys_98
            have bl_125 := Lib.hid (hfN.row_some bl_99.out (fun h => h))
            clear bl_99
            have bl_126 := Lib.hid hx
            clear hx
            refine hK.out _ _ hHeld (fun _ => ?_)
            clear hK K hfN
            try simp only [Act.put, List.setIfInBounds_toArray, List.set_cons_zero, List.set_cons_succ]
            refine wpAnyH_ready (rs := [13]) (by kernel_rfl) (by simp) ?_
            refine AllReadyH.cons (o := ⟨some 51, _, _, _, _, _⟩) rfl (fun K hK => ?_) (AllReadyH.nil)
            go_simp
            have hh := cauchy1_any C n2 m F T I v_93.heap.size A2 c2 hlt' hI v_122 (H2.out.later hHeld) bl_125.out (by omega) ys_124.out (fun b o e => by have := hA2 b o e; omega)
            refine hh.mono ?_; clear hh; rintro e v_128 ⟨A6, n6, c6, rfl, hs6, hA6, hbN⟩
            have res_129 := Lib.hid hs6
            clear hs6
            have hfN : Fr (fun _ => False) v_122 v_128 := Fr.of_below hbN
            have hH2 := hHeld.trans (hbN.mono hHeld.size)
            clear hbN
            go_wp2_with fail
            have hHeld := hH2
            clear hH2
            have hz_130 := hfN.size
            have ys_131 := Lib.hid (ys_124.out.fr hfN (fun _ _ _ _ h => h))
            clear ys_124
            have bl_132 := Lib.hid (hfN.row_some bl_125.out (fun h => h))
            clear bl_125
            have bl_133 := Lib.hid (hfN.row_some bl_126.out (fun h => h))
            clear bl_126
            refine hK.out _ _ hHeld (fun _ => ?_)
            clear hK K hfN
            try simp only [Act.put, List.setIfInBounds_toArray, List.set_cons_zero, List.set_cons_succ]
            refine wpAnyH_take (i := 14) (oi := ⟨some 37, _, _, _, _, _⟩) (v := ?vg14_134) rfl (by kernel_rfl) (by kernel_rfl) (by kernel_rfl) (fun _ _ _ h => h) (Or.inl ⟨by rfl, ?yg14_134⟩) hHeld ?rg14_134
            case yg14_134 =>
              intro wq hSw
              (try dsimp only at hSw)
              first | (go_simp; done) | (go_simp; with_reducible rfl)
            try simp only [Act.put, List.setIfInBounds_toArray, List.set_cons_zero, List.set_cons_succ]
            refine wpAnyH_take (i := 15) (oi := ⟨some 52, _, _, _, _, _⟩) (v := ?vg15_135) rfl (by kernel_rfl) (by kernel_rfl) (by kernel_rfl) (fun _ _ _ h => h) (Or.inl ⟨by rfl, ?yg15_135⟩) hHeld ?rg15_135
            case yg15_135 =>
              intro wq hSw
              (try dsimp only at hSw)
              first | (go_simp; done) | (go_simp; with_reducible rfl)
            try simp only [Act.put, List.setIfInBounds_toArray, List.set_cons_zero, List.set_cons_succ]
            refine wpAnyH_take (i := 16) (oi := ⟨some 53, _, _, _, _, _⟩) (v := ?vg16_136) rfl (by kernel_rfl) (by kernel_rfl) (by kernel_rfl) (fun _ _ _ h => h) (Or.inl ⟨by rfl, ?yg16_136⟩) hHeld ?rg16_136
            case yg16_136 =>
              intro wq hSw
              (try dsimp only at hSw)
              first | (go_simp; done) | (go_simp; with_reducible rfl)
            try simp only [Act.put, List.setIfInBounds_toArray, List.set_cons_zero, List.set_cons_succ]
            refine wpAnyH_ready (rs := [18]) (by kernel_rfl) (by simp) ?_
            refine AllReadyH.cons (o := ⟨none, _, _, _, _, _⟩) rfl (fun K hK => ?_) (AllReadyH.nil)
            have q0 := box0_0 bl_133.out; have q1 := box0_1 bl_133.out; have q2 := box0_2 bl_133.out
            have u0 := box0_free bl_133.out 0; have u1 := box0_free bl_133.out 1; have u2 := box0_free bl_133.out 2
            go_simp
            have hx := box0_set (r := 1) (c := (n2 : Int)) (A := A6) (n := n6) (cp := c6) bl_133.out
            have hfN := box0_fr v_128 (v_96.heap.size) 1 (n2 : Int) A6 n6 c6
            have hHeld := hHeld.trans (hfN.below hHeld.size (fun k hk => by have hk : k = v_96.heap.size := hk; omega) |> fun q => q)
            have hz_138 : v_128.heap.size ≤ (((v_128.setCell ⟨v_96.heap.size, 0, none⟩ (.int .i64 1)).setCell ⟨v_96.heap.size, 1, none⟩ (.int .i64 (n2 : Int))).setCell ⟨v_96.heap.size, 2, none⟩ (.slice A6 n6 c6)).heap.size ∧ (((v_128.setCell ⟨v_96.heap.size, 0, none⟩ (.int .i64 1)).setCell ⟨v_96.heap.size, 1, none⟩ (.int .i64 (n2 : Int))).setCell ⟨v_96.heap.size, 2, none⟩ (.slice A6 n6 c6)).heap.size ≤ v_128.heap.size := by simp
            obtain ⟨v_137, hw⟩ : ∃ v_137, v_137 = (((v_128.setCell ⟨v_96.heap.size, 0, none⟩ (.int .i64 1)).setCell ⟨v_96.heap.size, 1, none⟩ (.int .i64 (n2 : Int))).setCell ⟨v_96.heap.size, 2, none⟩ (.slice A6 n6 c6)) := ⟨_, rfl⟩
            rw [← hw] at hHeld hx hfN hz_138 ⊢
            clear hw q0 q1 q2 u0 u1 u2
            have ys_139 := Lib.hid (trivial)
            clear ys_131
            have bl_140 := Lib.hid (hfN.row_some bl_132.out (fun h => by have h : v_93.heap.size = v_96.heap.size := h; omega))
            clear bl_132
            clear bl_133
            have res_141 := Lib.hid (res_129.out.fr hfN (fun b o hn hA hk => by have hk : b = v_96.heap.size := hk; have := hA6 b o hA; omega))
            clear res_129
            have bl_142 := Lib.hid hx
            clear hx
            refine hK.out _ _ hHeld (fun _ => ?_)
            clear hK K hfN
            try simp only [Act.put, List.setIfInBounds_toArray, List.set_cons_zero, List.set_cons_succ]
            refine wpAnyH_take (i := 19) (oi := ⟨some 7, _, _, _, _, _⟩) (v := ?vg19_143) rfl (by kernel_rfl) (by kernel_rfl) (by kernel_rfl) (fun _ _ _ h => h) (Or.inl ⟨by rfl, ?yg19_143⟩) hHeld ?rg19_143
            case yg19_143 =>
              intro wq hSw
              (try dsimp only at hSw)
              first | (go_simp; done) | (go_simp; with_reducible rfl)
            try simp only [Act.put, List.setIfInBounds_toArray, List.set_cons_zero, List.set_cons_succ]
            refine wpAnyH_done (by kernel_rfl) ?_ _
            have q2 := boxM_2 bl_142.out
            go_wp2_with fail
            go_ret
            exact ⟨A6, n6, c6, rfl, res_141.out, Hb.out.trans (hHeld.mono hsz2)⟩
        · go_simp
          have hbN : Below v_93.heap.size v_93 (v_93.alloc (.cells #[.int .i64 0, .int .i64 0, .slice none 0 0] 111)) := (Below.refl _ _).alloc (Nat.le_refl _) _
          have hx := heap_alloc_new v_93 (.cells #[.int .i64 0, .int .i64 0, .slice none 0 0] 111)
          have hz_145 : v_93.heap.size + 1 ≤ (v_93.alloc (.cells #[.int .i64 0, .int .i64 0, .slice none 0 0] 111)).heap.size ∧ (v_93.alloc (.cells #[.int .i64 0, .int .i64 0, .slice none 0 0] 111)).heap.size ≤ v_93.heap.size + 1 := by simp
          obtain ⟨v_144, hw⟩ : ∃ v_144, v_144 = v_93.alloc (.cells #[.int .i64 0, .int .i64 0, .slice none 0 0] 111) := ⟨_, rfl⟩
          rw [← hw] at hbN hx hz_145 ⊢
          clear hw
          have hHeld := hHeld.trans (hbN.mono hHeld.size)
          have hfN : Fr (fun _ => False) v_93 v_144 := Fr.of_below hbN
          clear hbN
          have ys_146 := Lib.hid (ys_94.out.fr hfN (fun _ _ _ _ h => h))
          clear ys_94
          have bl_147 := Lib.hid hx
          clear hx
          refine hK.out _ _ hHeld (fun _ => ?_)
          clear hK K hfN
          try simp only [Act.put, List.setIfInBounds_toArray, List.set_cons_zero, List.set_cons_succ]
          refine wpAnyH_ready (rs := [6]) (by kernel_rfl) (by simp) ?_
          refine AllReadyH.cons (o := ⟨some 44, _, _, _, _, _⟩) rfl (fun K hK => ?_) (AllReadyH.nil)
          go_simp
          have hbN : Below v_144.heap.size v_144 (v_144.alloc (.cells #[.int .u8 (IntKind.u8.wrap (I : Int))] 5)) := (Below.refl _ _).alloc (Nat.le_refl _) _
          have hx := heap_alloc_new v_144 (.cells #[.int .u8 (IntKind.u8.wrap (I : Int))] 5)
          have hz_149 : v_144.heap.size + 1 ≤ (v_144.alloc (.cells #[.int .u8 (IntKind.u8.wrap (I : Int))] 5)).heap.size ∧ (v_144.alloc (.cells #[.int .u8 (IntKind.u8.wrap (I : Int))] 5)).heap.size ≤ v_144.heap.size + 1 := by simp
          obtain ⟨v_148, hw⟩ : ∃ v_148, v_148 = v_144.alloc (.cells #[.int .u8 (IntKind.u8.wrap (I : Int))] 5) := ⟨_, rfl⟩
          rw [← hw] at hbN hx hz_149 ⊢
          clear hw
          have hHeld := hHeld.trans (hbN.mono hHeld.size)
          have hfN : Fr (fun _ => False) v_144 v_148 := Fr.of_below hbN
          clear hbN
          have ys_150 := Lib.hid (ys_146.out.fr hfN (fun _ _ _ _ h => h))
          clear ys_146
          have bl_151 := Lib.hid (hfN.row_some bl_147.out (fun h => h))
          clear bl_147
          have bl_152 := Lib.hid hx
          clear hx
          refine hK.out _ _ hHeld (fun _ => ?_)
          clear hK K hfN
          try simp only [Act.put, List.setIfInBounds_toArray, List.set_cons_zero, List.set_cons_succ]
          refine wpAnyH_ready (rs := [13]) (by kernel_rfl) (by simp) ?_
          refine AllReadyH.cons (o := ⟨some 51, _, _, _, _, _⟩) rfl (fun K hK => ?_) (AllReadyH.nil)
          go_simp
          have hh := cauchy1_any C n2 m F T I v_144.heap.size A2 c2 hlt' hI v_148 (H2.out.later hHeld) bl_152.out (by omega) ys_150.out (fun b o e => by have := hA2 b o e; omega)
          refine hh.mono ?_; clear hh; rintro e v_154 ⟨A6, n6, c6, rfl, hs6, hA6, hbN⟩
          have res_155 := Lib.hid hs6
          clear hs6
          have hfN : Fr (fun _ => False) v_148 v_154 := Fr.of_below hbN
          have hH2 := hHeld.trans (hbN.mono hHeld.size)
          clear hbN
          go_wp2_with fail
          have hHeld := hH2
          clear hH2
          have hz_156 := hfN.size
          have ys_157 := Lib.hid (ys_150.out.fr hfN (fun _ _ _ _ h => h))
          clear ys_150
          have bl_158 := Lib.hid (hfN.row_some bl_151.out (fun h => h))
          clear bl_151
          have bl_159 := Lib.hid (hfN.row_some bl_152.out (fun h => h))
          clear bl_152
          refine hK.out _ _ hHeld (fun _ => ?_)
          clear hK K hfN
          try simp only [Act.put, List.setIfInBounds_toArray, List.set_cons_zero, List.set_cons_succ]
          refine wpAnyH_take (i := 14) (oi := ⟨some 37, _, _, _, _, _⟩) (v := ?vg14_160) rfl (by kernel_rfl) (by kernel_rfl) (by kernel_rfl) (fun _ _ _ h => h) (Or.inl ⟨by rfl, ?yg14_160⟩) hHeld ?rg14_160
          case yg14_160 =>
            intro wq hSw
            (try dsimp only at hSw)
            first | (go_simp; done) | (go_simp; with_reducible rfl)
          try simp only [Act.put, List.setIfInBounds_toArray, List.set_cons_zero, List.set_cons_succ]
          refine wpAnyH_take (i := 15) (oi := ⟨some 52, _, _, _, _, _⟩) (v := ?vg15_161) rfl (by kernel_rfl) (by kernel_rfl) (by kernel_rfl) (fun _ _ _ h => h) (Or.inl ⟨by rfl, ?yg15_161⟩) hHeld ?rg15_161
          case yg15_161 =>
            intro wq hSw
            (try dsimp only at hSw)
            first | (go_simp; done) | (go_simp; with_reducible rfl)
          try simp only [Act.put, List.setIfInBounds_toArray, List.set_cons_zero, List.set_cons_succ]
          refine wpAnyH_take (i := 16) (oi := ⟨some 53, _, _, _, _, _⟩) (v := ?vg16_162) rfl (by kernel_rfl) (by kernel_rfl) (by kernel_rfl) (fun _ _ _ h => h) (Or.inl ⟨by rfl, ?yg16_162⟩) hHeld ?rg16_162
          case yg16_162 =>
            intro wq hSw
            (try dsimp only at hSw)
            first | (go_simp; done) | (go_simp; with_reducible rfl)
          try simp only [Act.put, List.setIfInBounds_toArray, List.set_cons_zero, List.set_cons_succ]
          refine wpAnyH_ready (rs := [18]) (by kernel_rfl) (by simp) ?_
          refine AllReadyH.cons (o := ⟨none, _, _, _, _, _⟩) rfl (fun K hK => ?_) (AllReadyH.nil)
          have q0 := box0_0 bl_158.out; have q1 := box0_1 bl_158.out; have q2 := box0_2 bl_158.out
          have u0 := box0_free bl_158.out 0; have u1 := box0_free bl_158.out 1; have u2 := box0_free bl_158.out 2
          go_simp
          have hx := box0_set (r := 1) (c := (n2 : Int)) (A := A6) (n := n6) (cp := c6) bl_158.out
          have hfN := box0_fr v_154 (v_93.heap.size) 1 (n2 : Int) A6 n6 c6
          have hHeld := hHeld.trans (hfN.below hHeld.size (fun k hk => by have hk : k = v_93.heap.size := hk; omega) |> fun q => q)
          have hz_164 : v_154.heap.size ≤ (((v_154.setCell ⟨v_93.heap.size, 0, none⟩ (.int .i64 1)).setCell ⟨v_93.heap.size, 1, none⟩ (.int .i64 (n2 : Int))).setCell ⟨v_93.heap.size, 2, none⟩ (.slice A6 n6 c6)).heap.size ∧ (((v_154.setCell ⟨v_93.heap.size, 0, none⟩ (.int .i64 1)).setCell ⟨v_93.heap.size, 1, none⟩ (.int .i64 (n2 : Int))).setCell ⟨v_93.heap.size, 2, none⟩ (.slice A6 n6 c6)).heap.size ≤ v_154.heap.size := by simp
          obtain ⟨v_163, hw⟩ : ∃ v_163, v_163 = (((v_154.setCell ⟨v_93.heap.size, 0, none⟩ (.int .i64 1)).setCell ⟨v_93.heap.size, 1, none⟩ (.int .i64 (n2 : Int))).setCell ⟨v_93.heap.size, 2, none⟩ (.slice A6 n6 c6)) := ⟨_, rfl⟩
          rw [← hw] at hHeld hx hfN hz_164 ⊢
          clear hw q0 q1 q2 u0 u1 u2
          have ys_165 := Lib.hid (trivial)
          clear ys_157
          clear bl_158
          have bl_166 := Lib.hid (hfN.row_some bl_159.out (fun h => by have h : v_144.heap.size = v_93.heap.size := h; omega))
          clear bl_159
          have res_167 := Lib.hid (res_155.out.fr hfN (fun b o hn hA hk => by have hk : b = v_93.heap.size := hk; have := hA6 b o hA; omega))
          clear res_155
          have bl_168 := Lib.hid hx
          clear hx
          refine hK.out _ _ hHeld (fun _ => ?_)
          clear hK K hfN
          try simp only [Act.put, List.setIfInBounds_toArray, List.set_cons_zero, List.set_cons_succ]
          refine wpAnyH_take (i := 19) (oi := ⟨some 7, _, _, _, _, _⟩) (v := ?vg19_169) rfl (by kernel_rfl) (by kernel_rfl) (by kernel_rfl) (fun _ _ _ h => h) (Or.inl ⟨by rfl, ?yg19_169⟩) hHeld ?rg19_169
          case yg19_169 =>
            intro wq hSw
            (try dsimp only at hSw)
            first | (go_simp; done) | (go_simp; with_reducible rfl)
          try simp only [Act.put, List.setIfInBounds_toArray, List.set_cons_zero, List.set_cons_succ]
          refine wpAnyH_done (by kernel_rfl) ?_ _
          have q2 := boxM_2 bl_168.out
          go_wp2_with fail
          go_ret
          exact ⟨A6, n6, c6, rfl, res_167.out, Hb.out.trans (hHeld.mono hsz2)⟩
      · go_simp
        have hbN : Below v_1.heap.size v_1 (v_1.alloc (.cells #[.int .i64 0, .int .i64 0, .slice none 0 0] 111)) := (Below.refl _ _).alloc (Nat.le_refl _) _
        have hx := heap_alloc_new v_1 (.cells #[.int .i64 0, .int .i64 0, .slice none 0 0] 111)
        have hz_171 : v_1.heap.size + 1 ≤ (v_1.alloc (.cells #[.int .i64 0, .int .i64 0, .slice none 0 0] 111)).heap.size ∧ (v_1.alloc (.cells #[.int .i64 0, .int .i64 0, .slice none 0 0] 111)).heap.size ≤ v_1.heap.size + 1 := by simp
        obtain ⟨v_170, hw⟩ : ∃ v_170, v_170 = v_1.alloc (.cells #[.int .i64 0, .int .i64 0, .slice none 0 0] 111) := ⟨_, rfl⟩
        rw [← hw] at hbN hx hz_171 ⊢
        clear hw
        have hHeld := hHeld.trans (hbN.mono hHeld.size)
        have hfN : Fr (fun _ => False) v_1 v_170 := Fr.of_below hbN
        clear hbN
        have bl_172 := Lib.hid hx
        clear hx
        refine hK.out _ _ hHeld (fun _ => ?_)
        clear hK K hfN
        try simp only [Act.put, List.setIfInBounds_toArray, List.set_cons_zero, List.set_cons_succ]
        refine wpAnyH_ready (rs := [6, 12]) (by kernel_rfl) (by simp) ?_
        refine AllReadyH.cons (o := ⟨some 44, _, _, _, _, _⟩) rfl (fun K hK => ?_) (AllReadyH.cons (o := ⟨some 50, _, _, _, _, _⟩) rfl (fun K hK => ?_) (AllReadyH.nil))
        · go_simp
          have hbN : Below v_170.heap.size v_170 (v_170.alloc (.cells #[.int .u8 (IntKind.u8.wrap (I : Int))] 5)) := (Below.refl _ _).alloc (Nat.le_refl _) _
          have hx := heap_alloc_new v_170 (.cells #[.int .u8 (IntKind.u8.wrap (I : Int))] 5)
          have hz_174 : v_170.heap.size + 1 ≤ (v_170.alloc (.cells #[.int .u8 (IntKind.u8.wrap (I : Int))] 5)).heap.size ∧ (v_170.alloc (.cells #[.int .u8 (IntKind.u8.wrap (I : Int))] 5)).heap.size ≤ v_170.heap.size + 1 := by simp
          obtain ⟨v_173, hw⟩ : ∃ v_173, v_173 = v_170.alloc (.cells #[.int .u8 (IntKind.u8.wrap (I : Int))] 5) := ⟨_, rfl⟩
          rw [← hw] at hbN hx hz_174 ⊢
          clear hw
          have hHeld := hHeld.trans (hbN.mono hHeld.size)
          have hfN : Fr (fun _ => False) v_170 v_173 := Fr.of_below hbN
          clear hbN
          have bl_175 := Lib.hid (hfN.row_some bl_172.out (fun h => h))
          clear bl_172
          have bl_176 := Lib.hid hx
          clear hx
          refine hK.out _ _ hHeld (fun _ => ?_)
          clear hK K hfN
          try simp only [Act.put, List.setIfInBounds_toArray, List.set_cons_zero, List.set_cons_succ]
          refine wpAnyH_ready (rs := [12]) (by kernel_rfl) (by simp) ?_
          refine AllReadyH.cons (o := ⟨some 50, _, _, _, _, _⟩) rfl (fun K hK => ?_) (AllReadyH.nil)
          go_simp
          have hh := below_any k (by omega) v_173
          refine hh.mono ?_; clear hh; rintro e v_178 ⟨A2, n2, c2, rfl, hs2, hbN, hm2⟩
          obtain rfl : n2 = k := by
            have := hs2.len
            rw [cells_length, upto_length, Nat.mul_one] at this
            exact this.symm
          have hA2 : ∀ b o, A2 = some ⟨b, o, none⟩ → w2.heap.size ≤ b := fun b o e => by
            obtain ⟨g, cur, e', hg, _⟩ := hm2 H2.out.k1
            rw [e] at e'; injection e' with e'; injection e' with e' _
            have := hHeld.size
            omega
          have ys_179 := Lib.hid hs2
          clear hs2 hm2
          have hfN : Fr (fun _ => False) v_173 v_178 := Fr.of_below hbN
          have hH2 := hHeld.trans (hbN.mono hHeld.size)
          clear hbN
          go_wp2_with fail
          have hHeld := hH2
          clear hH2
          have hz_180 := hfN.size
          have bl_181 := Lib.hid (hfN.row_some bl_175.out (fun h => h))
          clear bl_175
          have bl_182 := Lib.hid (hfN.row_some bl_176.out (fun h => h))
          clear bl_176
          refine hK.out _ _ hHeld (fun _ => ?_)
          clear hK K hfN
          try simp only [Act.put, List.setIfInBounds_toArray, List.set_cons_zero, List.set_cons_succ]
          refine wpAnyH_ready (rs := [13]) (by kernel_rfl) (by simp) ?_
          refine AllReadyH.cons (o := ⟨some 51, _, _, _, _, _⟩) rfl (fun K hK => ?_) (AllReadyH.nil)
          go_simp
          have hh := cauchy1_any C n2 m F T I v_170.heap.size A2 c2 hlt' hI v_178 (H2.out.later hHeld) bl_182.out (by omega) ys_179.out (fun b o e => by have := hA2 b o e; omega)
          refine hh.mono ?_; clear hh; rintro e v_184 ⟨A6, n6, c6, rfl, hs6, hA6, hbN⟩
          have res_185 := Lib.hid hs6
          clear hs6
          have hfN : Fr (fun _ => False) v_178 v_184 := Fr.of_below hbN
          have hH2 := hHeld.trans (hbN.mono hHeld.size)
          clear hbN
          go_wp2_with fail
          have hHeld := hH2
          clear hH2
          have hz_186 := hfN.size
          have bl_187 := Lib.hid (hfN.row_some bl_181.out (fun h => h))
          clear bl_181
          have bl_188 := Lib.hid (hfN.row_some bl_182.out (fun h => h))
          clear bl_182
          have ys_189 := Lib.hid (ys_179.out.fr hfN (fun _ _ _ _ h => h))
          clear ys_179
          refine hK.out _ _ hHeld (fun _ => ?_)
          clear hK K hfN
          try simp only [Act.put, List.setIfInBounds_toArray, List.set_cons_zero, List.set_cons_succ]
          refine wpAnyH_take (i := 14) (oi := ⟨some 37, _, _, _, _, _⟩) (v := ?vg14_190) rfl (by kernel_rfl) (by kernel_rfl) (by kernel_rfl) (fun _ _ _ h => h) (Or.inl ⟨by rfl, ?yg14_190⟩) hHeld ?rg14_190
          case yg14_190 =>
            intro wq hSw
            (try dsimp only at hSw)
            first | (go_simp; done) | (go_simp; with_reducible rfl)
          try simp only [Act.put, List.setIfInBounds_toArray, List.set_cons_zero, List.set_cons_succ]
          refine wpAnyH_take (i := 15) (oi := ⟨some 52, _, _, _, _, _⟩) (v := ?vg15_191) rfl (by kernel_rfl) (by kernel_rfl) (by kernel_rfl) (fun _ _ _ h => h) (Or.inl ⟨by rfl, ?yg15_191⟩) hHeld ?rg15_191
          case yg15_191 =>
            intro wq hSw
            (try dsimp only at hSw)
            first | (go_simp; done) | (go_simp; with_reducible rfl)
          try simp only [Act.put, List.setIfInBounds_toArray, List.set_cons_zero, List.set_cons_succ]
          refine wpAnyH_take (i := 16) (oi := ⟨some 53, _, _, _, _, _⟩) (v := ?vg16_192) rfl (by kernel_rfl) (by kernel_rfl) (by kernel_rfl) (fun _ _ _ h => h) (Or.inl ⟨by rfl, ?yg16_192⟩) hHeld ?rg16_192
          case yg16_192 =>
            intro wq hSw
            (try dsimp only at hSw)
            first | (go_simp; done) | (go_simp; with_reducible rfl)
          try simp only [Act.put, List.setIfInBounds_toArray, List.set_cons_zero, List.set_cons_succ]
          refine wpAnyH_ready (rs := [18]) (by kernel_rfl) (by simp) ?_
          refine AllReadyH.cons (o := ⟨none, _, _, _, _, _⟩) rfl (fun K hK => ?_) (AllReadyH.nil)
          have q0 := box0_0 bl_187.out; have q1 := box0_1 bl_187.out; have q2 := box0_2 bl_187.out
          have u0 := box0_free bl_187.out 0; have u1 := box0_free bl_187.out 1; have u2 := box0_free bl_187.out 2
          go_simp
          have hx := box0_set (r := 1) (c := (n2 : Int)) (A := A6) (n := n6) (cp := c6) bl_187.out
          have hfN := box0_fr v_184 (v_1.heap.size) 1 (n2 : Int) A6 n6 c6
          have hHeld := hHeld.trans (hfN.below hHeld.size (fun k hk => by have hk : k = v_1.heap.size := hk; omega) |> fun q => q)
          have hz_194 : v_184.heap.size ≤ (((v_184.setCell ⟨v_1.heap.size, 0, none⟩ (.int .i64 1)).setCell ⟨v_1.heap.size, 1, none⟩ (.int .i64 (n2 : Int))).setCell ⟨v_1.heap.size, 2, none⟩ (.slice A6 n6 c6)).heap.size ∧ (((v_184.setCell ⟨v_1.heap.size, 0, none⟩ (.int .i64 1)).setCell ⟨v_1.heap.size, 1, none⟩ (.int .i64 (n2 : Int))).setCell ⟨v_1.heap.size, 2, none⟩ (.slice A6 n6 c6)).heap.size ≤ v_184.heap.size := by simp
          obtain ⟨v_193, hw⟩ : ∃ v_193, v_193 = (((v_184.setCell ⟨v_1.heap.size, 0, none⟩ (.int .i64 1)).setCell ⟨v_1.heap.size, 1, none⟩ (.int .i64 (n2 : Int))).setCell ⟨v_1.heap.size, 2, none⟩ (.slice A6 n6 c6)) := ⟨_, rfl⟩
          rw [← hw] at hHeld hx hfN hz_194 ⊢
          clear hw q0 q1 q2 u0 u1 u2
          clear bl_187
          have bl_195 := Lib.hid (hfN.row_some bl_188.out (fun h => by have h : v_170.heap.size = v_1.heap.size := h; omega))
          clear bl_188
          have ys_196 := Lib.hid (trivial)
          clear ys_189
          have res_197 := Lib.hid (res_185.out.fr hfN (fun b o hn hA hk => by have hk : b = v_1.heap.size := hk; have := hA6 b o hA; omega))
          clear res_185
          have bl_198 := Lib.hid hx
          clear hx
          refine hK.out _ _ hHeld (fun _ => ?_)
          clear hK K hfN
          try simp only [Act.put, List.setIfInBounds_toArray, List.set_cons_zero, List.set_cons_succ]
          refine wpAnyH_take (i := 19) (oi := ⟨some 7, _, _, _, _, _⟩) (v := ?vg19_199) rfl (by kernel_rfl) (by kernel_rfl) (by kernel_rfl) (fun _ _ _ h => h) (Or.inl ⟨by rfl, ?yg19_199⟩) hHeld ?rg19_199
          case yg19_199 =>
            intro wq hSw
            (try dsimp only at hSw)
            first | (go_simp; done) | (go_simp; with_reducible rfl)
          try simp only [Act.put, List.setIfInBounds_toArray, List.set_cons_zero, List.set_cons_succ]
          refine wpAnyH_done (by kernel_rfl) ?_ _
          have q2 := boxM_2 bl_198.out
          go_wp2_with fail
          go_ret
          exact ⟨A6, n6, c6, rfl, res_197.out, Hb.out.trans (hHeld.mono hsz2)⟩
        · go_simp
          have hh := below_any k (by omega) v_170
          refine hh.mono ?_; clear hh; rintro e v_201 ⟨A2, n2, c2, rfl, hs2, hbN, hm2⟩
          obtain rfl : n2 = k := by
            have := hs2.len
            rw [cells_length, upto_length, Nat.mul_one] at this
            exact this.symm
          have hA2 : ∀ b o, A2 = some ⟨b, o, none⟩ → w2.heap.size ≤ b := fun b o e => by
            obtain ⟨g, cur, e', hg, _⟩ := hm2 H2.out.k1
            rw [e] at e'; injection e' with e'; injection e' with e' _
            have := hHeld.size
            omega
          have ys_202 := Lib.hid hs2
          clear hs2 hm2
          have hfN : Fr (fun _ => False) v_170 v_201 := Fr.of_below hbN
          have hH2 := hHeld.trans (hbN.mono hHeld.size)
          clear hbN
          go_wp2_with fail
          have hHeld := hH2
          clear hH2
          have hz_203 := hfN.size
          have bl_204 := Lib.hid (hfN.row_some bl_172.out (fun h => h))
          clear bl_172
          refine hK.out _ _ hHeld (fun _ => ?_)
          clear hK K hfN
          try simp only [Act.put, List.setIfInBounds_toArray, List.set_cons_zero, List.set_cons_succ]
          refine wpAnyH_ready (rs := [6]) (by kernel_rfl) (by simp) ?_
          refine AllReadyH.cons (o := ⟨some 44, _, _, _, _, _⟩) rfl (fun K hK => ?_) (AllReadyH.nil)
          go_simp
          have hbN : Below v_201.heap.size v_201 (v_201.alloc (.cells #[.int .u8 (IntKind.u8.wrap (I : Int))] 5)) := (Below.refl _ _).alloc (Nat.le_refl _) _
          have hx := heap_alloc_new v_201 (.cells #[.int .u8 (IntKind.u8.wrap (I : Int))] 5)
          have hz_206 : v_201.heap.size + 1 ≤ (v_201.alloc (.cells #[.int .u8 (IntKind.u8.wrap (I : Int))] 5)).heap.size ∧ (v_201.alloc (.cells #[.int .u8 (IntKind.u8.wrap (I : Int))] 5)).heap.size ≤ v_201.heap.size + 1 := by simp
          obtain ⟨v_205, hw⟩ : ∃ v_205, v_205 = v_201.alloc (.cells #[.int .u8 (IntKind.u8.wrap (I : Int))] 5) := ⟨_, rfl⟩
          rw [← hw] at hbN hx hz_206 ⊢
          clear hw
          have hHeld := hHeld.trans (hbN.mono hHeld.size)
          have hfN : Fr (fun _ => False) v_201 v_205 := Fr.of_below hbN
          clear hbN
          have bl_207 := Lib.hid (hfN.row_some bl_204.out (fun h => h))
          clear bl_204
          have ys_208 := Lib.hid (ys_202.out.fr hfN (fun _ _ _ _ h => h))
          clear ys_202
          have bl_209 := Lib.hid hx
          clear hx
          refine hK.out _ _ hHeld (fun _ => ?_)
          clear hK K hfN
          try simp only [Act.put, List.setIfInBounds_toArray, List.set_cons_zero, List.set_cons_succ]
          refine wpAnyH_ready (rs := [13]) (by kernel_rfl) (by simp) ?_
          refine AllReadyH.cons (o := ⟨some 51, _, _, _, _, _⟩) rfl (fun K hK => ?_) (AllReadyH.nil)
          go_simp
          have hh := cauchy1_any C n2 m F T I v_201.heap.size A2 c2 hlt' hI v_205 (H2.out.later hHeld) bl_209.out (by omega) ys_208.out (fun b o e => by have := hA2 b o e; omega)
          refine hh.mono ?_; clear hh; rintro e v_211 ⟨A6, n6, c6, rfl, hs6, hA6, hbN⟩
          have res_212 := Lib.hid hs6
          clear hs6
          have hfN : Fr (fun _ => False) v_205 v_211 := Fr.of_below hbN
          have hH2 := hHeld.trans (hbN.mono hHeld.size)
          clear hbN
          go_wp2_with fail
          have hHeld := hH2
          clear hH2
          have hz_213 := hfN.size
          have bl_214 := Lib.hid (hfN.row_some bl_207.out (fun h => h))
          clear bl_207
          have ys_215 := Lib.hid (ys_208.out.fr hfN (fun _ _ _ _ h => h))
          clear ys_208
          have bl_216 := Lib.hid (hfN.row_some bl_209.out (fun h => h))
          clear bl_209
          refine hK.out _ _ hHeld (fun _ => ?_)
          clear hK K hfN
          try simp only [Act.put, List.setIfInBounds_toArray, List.set_cons_zero, List.set_cons_succ]
          refine wpAnyH_take (i := 14) (oi := ⟨some 37, _, _, _, _, _⟩) (v := ?vg14_217) rfl (by kernel_rfl) (by kernel_rfl) (by kernel_rfl) (fun _ _ _ h => h) (Or.inl ⟨by rfl, ?yg14_217⟩) hHeld ?rg14_217
          case yg14_217 =>
            intro wq hSw
            (try dsimp only at hSw)
            first | (go_simp; done) | (go_simp; with_reducible rfl)
          try simp only [Act.put, List.setIfInBounds_toArray, List.set_cons_zero, List.set_cons_succ]
          refine wpAnyH_take (i := 15) (oi := ⟨some 52, _, _, _, _, _⟩) (v := ?vg15_218) rfl (by kernel_rfl) (by kernel_rfl) (by kernel_rfl) (fun _ _ _ h => h) (Or.inl ⟨by rfl, ?yg15_218⟩) hHeld ?rg15_218
          case yg15_218 =>
            intro wq hSw
            (try dsimp only at hSw)
            first | (go_simp; done) | (go_simp; with_reducible rfl)
          try simp only [Act.put, List.setIfInBounds_toArray, List.set_cons_zero, List.set_cons_succ]
          refine wpAnyH_take (i := 16) (oi := ⟨some 53, _, _, _, _, _⟩) (v := ?vg16_219) rfl (by kernel_rfl) (by kernel_rfl) (by kernel_rfl) (fun _ _ _ h => h) (Or.inl ⟨by rfl, ?yg16_219⟩) hHeld ?rg16_219
          case yg16_219 =>
            intro wq hSw
            (try dsimp only at hSw)
            first | (go_simp; done) | (go_simp; with_reducible rfl)
          try simp only [Act.put, List.setIfInBounds_toArray, List.set_cons_zero, List.set_cons_succ]
          refine wpAnyH_ready (rs := [18]) (by kernel_rfl) (by simp) ?_
          refine AllReadyH.cons (o := ⟨none, _, _, _, _, _⟩) rfl (fun K hK => ?_) (AllReadyH.nil)
          have q0 := box0_0 bl_214.out; have q1 := box0_1 bl_214.out; have q2 := box0_2 bl_214.out
          have u0 := box0_free bl_214.out 0; have u1 := box0_free bl_214.out 1; have u2 := box0_free bl_214.out 2
          go_simp
          have hx := box0_set (r := 1) (c := (n2 : Int)) (A := A6) (n := n6) (cp := c6) bl_214.out
          have hfN := box0_fr v_211 (v_1.heap.size) 1 (n2 : Int) A6 n6 c6
          have hHeld := hHeld.trans (hfN.below hHeld.size (fun k hk => by have hk : k = v_1.heap.size := hk; omega) |> fun q => q)
          have hz_221 : v_211.heap.size ≤ (((v_211.setCell ⟨v_1.heap.size, 0, none⟩ (.int .i64 1)).setCell ⟨v_1.heap.size, 1, none⟩ (.int .i64 (n2 : Int))).setCell ⟨v_1.heap.size, 2, none⟩ (.slice A6 n6 c6)).heap.size ∧ (((v_211.setCell ⟨v_1.heap.size, 0, none⟩ (.int .i64 1)).setCell ⟨v_1.heap.size, 1, none⟩ (.int .i64 (n2 : Int))).setCell ⟨v_1.heap.size, 2, none⟩ (.slice A6 n6 c6)).heap.size ≤ v_211.heap.size := by simp
          obtain ⟨v_220, hw⟩ : ∃ v_220, v_220 = (((v_211.setCell ⟨v_1.heap.size, 0, none⟩ (.int .i64 1)).setCell ⟨v_1.heap.size, 1, none⟩ (.int .i64 (n2 : Int))).setCell ⟨v_1.heap.size, 2, none⟩ (.slice A6 n6 c6)) := ⟨_, rfl⟩
          rw [← hw] at hHeld hx hfN hz_221 ⊢
          clear hw q0 q1 q2 u0 u1 u2
          clear bl_214
          have ys_222 := Lib.hid (trivial)
          clear ys_215
          have bl_223 := Lib.hid (hfN.row_some bl_216.out (fun h => by have h : v_201.heap.size = v_1.heap.size := h; omega))
          clear bl_216
          have res_224 := Lib.hid (res_212.out.fr hfN (fun b o hn hA hk => by have hk : b = v_1.heap.size := hk; have := hA6 b o hA; omega))
          clear res_212
          have bl_225 := Lib.hid hx
          clear hx
          refine hK.out _ _ hHeld (fun _ => ?_)
          clear hK K hfN
          try simp only [Act.put, List.setIfInBounds_toArray, List.set_cons_zero, List.set_cons_succ]
          refine wpAnyH_take (i := 19) (oi := ⟨some 7, _, _, _, _, _⟩) (v := ?vg19_226) rfl (by kernel_rfl) (by kernel_rfl) (by kernel_rfl) (fun _ _ _ h => h) (Or.inl ⟨by rfl, ?yg19_226⟩) hHeld ?rg19_226
          case yg19_226 =>
            intro wq hSw
            (try dsimp only at hSw)
            first | (go_simp; done) | (go_simp; with_reducible rfl)
          try simp only [Act.put, List.setIfInBounds_toArray, List.set_cons_zero, List.set_cons_succ]
          refine wpAnyH_done (by kernel_rfl) ?_ _
          have q2 := boxM_2 bl_225.out
          go_wp2_with fail
          go_ret
          exact ⟨A6, n6, c6, rfl, res_224.out, Hb.out.trans (hHeld.mono hsz2)⟩
  · have hg := fun u => ghas_any k m i h3 u
    rw [withinB_f hin] at hg
    rw [rowI, if_neg hin]
    have Hin := Lib.hid hin; clear hin
    go_enter Try.func46, Try.ntmps46
    go_wp2_with fail
    refine hm.mono ?_; clear hm; rintro e w1 ⟨rfl, j, hw1⟩
    have hb1 : Below w.heap.size w w1 := by rw [hw1]; exact below_drewN (Below.refl _ _) j
    clear hw1
    have H1 := Lib.hid (H.out.later hb1)
    have c0 := H1.out.c0
    have c1 := H1.out.c1
    go_wp2_with fail
    refine (hg _).mono ?_; clear hg; rintro e w2 ⟨rfl, hb2⟩
    have hb := hb1.trans (hb2.mono hb1.size)
    clear c0 c1 hb1 hb2
    go_wp2_with fail
    go_ret
    exact ⟨none, 0, 0, rfl, Sl.nil _ 1 0 (by decide), hb⟩
end Go.Proofs.Ytjacdabhlnfbkaa
