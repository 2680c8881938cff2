/-
  Contract of package matrix's Mul of two matrices that fit. Condition: the field is one that New made. (Written by gen_mdm.py.)
-/
import Derived.Test.YtccnoflgbopjlaaMdl
namespace Go.Proofs.Ytccnoflgbopjlaa
open Go.RowKit Go.Proofs
set_option linter.unusedVariables false

set_option maxRecDepth 20000 in
set_option maxHeartbeats 6400000 in
theorem mul_yes (F T R D C : Nat) (Aa : Option Addr) (Na ca : Nat) (la : List UInt8) (Ab : Option Addr) (Nb cb : Nat) (lb : List UInt8) (hR1 : 1 ≤ R) (hR2 : R ≤ 255) (hD1 : 1 ≤ D) (hD2 : D ≤ 255) (hC1 : 1 ≤ C) (hC2 : C ≤ 255) (hNa : Na = R * D) (hNb : Nb = D * C)
    (w : World) (h : Fld w F T) (hma : MxAt w T Aa Na ca la) (hmb : MxAt w T Ab Nb cb lb) :
    Calls Try.prog 20 #[.pointer (some ⟨F, 0, none⟩), .agg #[.int .i64 (R : Int), .int .i64 (D : Int), .slice Aa Na ca], .agg #[.int .i64 (D : Int), .int .i64 (C : Int), .slice Ab Nb cb]] w
      fun e w' => RetOk R C (tabL R C (mm D (mx D la) (mx C lb))) w e w' ∧ Fld1 w' F T ∧ Fr (Ft T) w w' := by
  have hT := h.ltT
  have hF := h.ltF
  have hhM := mmade_any F T (mulW w (.pointer (some ⟨F, 0, none⟩)) (R : Int) (D : Int) Aa Na ca (D : Int) (C : Int) Ab Nb cb) (h.later (mulW_below w _ _ _ _ _ _ _ _ _ _ _))
  have hla := hma.sl.lim
  have hlb := hmb.sl.lim
  have H1 := Lib.hid (show rightB (R : Int) (D : Int) Na = true from decide_eq_true ⟨by omega, by omega, by omega, by omega, by rw [hNa]; simp⟩)
  have H2 := Lib.hid (show rightB (D : Int) (C : Int) Nb = true from decide_eq_true ⟨by omega, by omega, by omega, by omega, by rw [hNb]; simp⟩)
  have HNa := Lib.hid hNa; clear hNa
  have HNb := Lib.hid hNb; clear hNb
  have Hma := Lib.hid hma; clear hma
  have Hmb := Lib.hid hmb; clear hmb
  go_enter Try.func20, Try.ntmps20
  go_wp2_with fail
  refine hhM.mono ?_; clear hhM; rintro e w1 ⟨rfl, hf1, r1⟩
  have I1 := Lib.hid (MulAt.start hT hf1 r1); clear hf1 r1
  have a0 := boxM_0 I1.out.b1; have a1 := boxM_1 I1.out.b1; have a2 := boxM_2 I1.out.b1
  go_wp2_with fail
  refine (right_any (R : Int) (D : Int) Aa Na ca hla _).mono ?_; rintro e w2 ⟨rfl, hb2⟩
  rw [H1.out]
  have I2 := Lib.hid (I1.out.later hb2); clear hb2 a0 a1 a2
  have b0 := boxM_0 I2.out.b2; have b1 := boxM_1 I2.out.b2; have b2 := boxM_2 I2.out.b2
  go_wp2_with fail
  refine (right_any (D : Int) (C : Int) Ab Nb cb hlb _).mono ?_; rintro e w4 ⟨rfl, hb3⟩
  rw [H2.out]
  have I4 := Lib.hid (I2.out.later hb3); clear hb3 b0 b1 b2
  have a0 := boxM_0 I4.out.b1; have a1 := boxM_1 I4.out.b1; have a2 := boxM_2 I4.out.b1
  have b0 := boxM_0 I4.out.b2; have b1 := boxM_1 I4.out.b2; have b2 := boxM_2 I4.out.b2
  have hs4 := I4.out.size
  have HSa := Lib.hid (Hma.out.fr I4.out.fr).sl
  have HSb := Lib.hid (Hmb.out.fr I4.out.fr).sl
  clear h
  go_upto_region 5 with (fail)
  go_cut [8, 9] (fun v8 v9 wx => ∃ g8 g9 gl gr : Nat, v8 = .pointer (some ⟨g8, 0, none⟩) ∧ v9 = .pointer (some ⟨g9, 0, none⟩) ∧ Below w4.heap.size w4 wx ∧ (w4.heap.size ≤ g8 ∧ w4.heap.size ≤ g9) ∧
      wx.heap[g8]? = some (.cells #[.slice (some ⟨gl, 0, none⟩) R R] 57 (0, 0)) ∧ wx.heap[g9]? = some (.cells #[.slice (some ⟨gr, 0, none⟩) C C] 57 (0, 0)) ∧
      RowsAt wx gl R D (fun _ => False) (mx D la) ∧ RowsAt wx gr C D (fun _ => False) (fun j i => mx C lb i j))
  case first =>
    refine wp_region_held_drew (S := fun w' => Below w4.heap.size w4 w') (by kernel_rfl) (Below.drew (Below.refl _ _)) (fun hHeld => ?_)
    clear hHeld
    have hHeld : Below w4.heap.size w4 w4.drew := Below.drew (Below.refl _ _)
    have hz_0 : w4.heap.size ≤ w4.drew.heap.size ∧ w4.drew.heap.size ≤ w4.heap.size := ⟨Nat.le_refl _, Nat.le_refl _⟩
    obtain ⟨v_1, hw⟩ : ∃ v_1, v_1 = w4.drew := ⟨_, rfl⟩
    rw [← hw] at hHeld hz_0 ⊢
    clear hw
    refine wpAnyH_take (i := 0) (oi := ⟨some 30, _, _, _, _, _⟩) (v := ?vg0_2) rfl (by kernel_rfl) (by kernel_rfl) (by kernel_rfl) (fun _ _ _ h => h) (Or.inl ⟨by rfl, ?yg0_2⟩) hHeld ?rg0_2
    case yg0_2 =>
      intro wq hSw
      (try dsimp only at hSw)
      have q0 := (hSw.cell (World.block_lt_of_cell? w4 _ a0)).trans a0
      have q1 := (hSw.cell (World.block_lt_of_cell? w4 _ a1)).trans a1
      have q2 := (hSw.cell (World.block_lt_of_cell? w4 _ a2)).trans a2
      first | (go_simp; done) | (go_simp; with_reducible rfl)
    try simp only [Act.put, List.setIfInBounds_toArray, List.set_cons_zero, List.set_cons_succ]
    refine wpAnyH_take (i := 2) (oi := ⟨some 32, _, _, _, _, _⟩) (v := ?vg2_3) rfl (by kernel_rfl) (by kernel_rfl) (by kernel_rfl) (fun _ _ _ h => h) (Or.inl ⟨by rfl, ?yg2_3⟩) hHeld ?rg2_3
    case yg2_3 =>
      intro wq hSw
      (try dsimp only at hSw)
      have q0 := (hSw.cell (World.block_lt_of_cell? w4 _ b0)).trans b0
      have q1 := (hSw.cell (World.block_lt_of_cell? w4 _ b1)).trans b1
      have q2 := (hSw.cell (World.block_lt_of_cell? w4 _ b2)).trans b2
      first | (go_simp; done) | (go_simp; with_reducible rfl)
    try simp only [Act.put, List.setIfInBounds_toArray, List.set_cons_zero, List.set_cons_succ]
    refine wpAnyH_ready (rs := [1, 4, 5]) (by kernel_rfl) (by simp) ?_
    refine AllReadyH.cons (o := ⟨some 31, _, _, _, _, _⟩) rfl (fun K hK => ?_) (AllReadyH.cons (o := ⟨some 8, _, _, _, _, _⟩) rfl (fun K hK => ?_) (AllReadyH.cons (o := ⟨some 9, _, _, _, _, _⟩) rfl (fun K hK => ?_) (AllReadyH.nil)))
    · go_simp
      have hh := rowsOf_any R D Aa Na ca la hR1 hR2 hD1 hD2 HNa.out v_1 (HSa.out.below hHeld (Nat.le_refl _))
      refine hh.mono ?_; clear hh; rintro e v_4 ⟨gl, rfl, hgl, hbN, hrow⟩
      have rl := Lib.hid ((hrow (fun _ => False) (fun b o hn hA hk => by have hk : False := hk; have := HSa.out.lt (by decide) hn hA; omega)).at_)
      clear hrow
      have hgl2 := rl.out.lt
      go_wp2_with fail
      have hHeld := hHeld.trans (hbN.mono hHeld.size)
      have hfN : Fr (fun _ => False) v_1 v_4 := Fr.of_below hbN
      have hz_5 := hbN.size
      clear hbN
      refine hK.out _ _ hHeld (fun _ => ?_)
      clear hK K hfN
      try simp only [Act.put, List.setIfInBounds_toArray, List.set_cons_zero, List.set_cons_succ]
      refine wpAnyH_ready (rs := [3, 4, 5]) (by kernel_rfl) (by simp) ?_
      refine AllReadyH.cons (o := ⟨some 33, _, _, _, _, _⟩) rfl (fun K hK => ?_) (AllReadyH.cons (o := ⟨some 8, _, _, _, _, _⟩) rfl (fun K hK => ?_) (AllReadyH.cons (o := ⟨some 9, _, _, _, _, _⟩) rfl (fun K hK => ?_) (AllReadyH.nil)))
      · go_simp
        have hh := columnsOf_any D C Ab Nb cb lb hD1 hD2 hC1 hC2 HNb.out v_4 (HSb.out.below hHeld (Nat.le_refl _))
        refine hh.mono ?_; clear hh; rintro e v_12 ⟨gr, rfl, hgr, hbN, hrow⟩
        have rr := Lib.hid (hrow (fun _ => False) (fun b hlt _ hk => by have hk : False := hk; omega))
        clear hrow
        have hgr2 := rr.out.lt
        go_wp2_with fail
        have hHeld := hHeld.trans (hbN.mono hHeld.size)
        have hfN : Fr (fun _ => False) v_4 v_12 := Fr.of_below hbN
        have hz_13 := hbN.size
        have rl_14 := Lib.hid (rl.out.fr hfN (fun h => h) (fun _ h => h.elim))
        clear rl
        clear hbN
        refine hK.out _ _ hHeld (fun _ => ?_)
        clear hK K hfN
        try simp only [Act.put, List.setIfInBounds_toArray, List.set_cons_zero, List.set_cons_succ]
        refine wpAnyH_ready (rs := [4, 5]) (by kernel_rfl) (by simp) ?_
        refine AllReadyH.cons (o := ⟨some 8, _, _, _, _, _⟩) rfl (fun K hK => ?_) (AllReadyH.cons (o := ⟨some 9, _, _, _, _, _⟩) rfl (fun K hK => ?_) (AllReadyH.nil))
        · go_simp
          have hbN : Below v_12.heap.size v_12 (v_12.alloc (.cells #[.slice none 0 0] 57)) := (Below.refl _ _).alloc (Nat.le_refl _) _
          have hx := heap_alloc_new v_12 (.cells #[.slice none 0 0] 57)
          have hz_26 : v_12.heap.size + 1 ≤ (v_12.alloc (.cells #[.slice none 0 0] 57)).heap.size ∧ (v_12.alloc (.cells #[.slice none 0 0] 57)).heap.size ≤ v_12.heap.size + 1 := by simp
          obtain ⟨v_25, hw⟩ : ∃ v_25, v_25 = v_12.alloc (.cells #[.slice none 0 0] 57) := ⟨_, rfl⟩
          rw [← hw] at hbN hx hz_26 ⊢
          clear hw
          have hHeld := hHeld.trans (hbN.mono hHeld.size)
          have hfN : Fr (fun _ => False) v_12 v_25 := Fr.of_below hbN
          have rl_27 := Lib.hid (rl_14.out.wid (fun k => k = v_12.heap.size) (fun b hlt hk => by have hk : b = v_12.heap.size := hk; show False; omega))
          clear rl_14
          have rr_28 := Lib.hid (rr.out.wid (fun k => k = v_12.heap.size) (fun b hlt hk => by have hk : b = v_12.heap.size := hk; show False; omega))
          clear rr
          have rl_29 := Lib.hid (rl_27.out.fr hfN (fun h => h) (fun _ h => h.elim))
          clear rl_27
          have rr_30 := Lib.hid (rr_28.out.fr hfN (fun h => h) (fun _ h => h.elim))
          clear rr_28
          have bl_31 := Lib.hid hx
          clear hx
          refine hK.out _ _ hHeld (fun _ => ?_)
          clear hK K hfN
          try simp only [Act.put, List.setIfInBounds_toArray, List.set_cons_zero, List.set_cons_succ]
          refine wpAnyH_ready (rs := [5]) (by kernel_rfl) (by simp) ?_
          refine AllReadyH.cons (o := ⟨some 9, _, _, _, _, _⟩) rfl (fun K hK => ?_) (AllReadyH.nil)
          go_simp
          have hbN : Below v_25.heap.size v_25 (v_25.alloc (.cells #[.slice none 0 0] 57)) := (Below.refl _ _).alloc (Nat.le_refl _) _
          have hx := heap_alloc_new v_25 (.cells #[.slice none 0 0] 57)
          have hz_40 : v_25.heap.size + 1 ≤ (v_25.alloc (.cells #[.slice none 0 0] 57)).heap.size ∧ (v_25.alloc (.cells #[.slice none 0 0] 57)).heap.size ≤ v_25.heap.size + 1 := by simp
          obtain ⟨v_39, hw⟩ : ∃ v_39, v_39 = v_25.alloc (.cells #[.slice none 0 0] 57) := ⟨_, rfl⟩
          rw [← hw] at hbN hx hz_40 ⊢
          clear hw
          have hHeld := hHeld.trans (hbN.mono hHeld.size)
          have hfN : Fr (fun _ => False) v_25 v_39 := Fr.of_below hbN
          have rl_41 := Lib.hid (rl_29.out.wid (fun k => k = v_12.heap.size ∨ k = v_25.heap.size) (fun b hlt hk => by have hk : b = v_12.heap.size ∨ b = v_25.heap.size := hk; show b = v_12.heap.size; omega))
          clear rl_29
          have rr_42 := Lib.hid (rr_30.out.wid (fun k => k = v_12.heap.size ∨ k = v_25.heap.size) (fun b hlt hk => by have hk : b = v_12.heap.size ∨ b = v_25.heap.size := hk; show b = v_12.heap.size; omega))
          clear rr_30
          have rl_43 := Lib.hid (rl_41.out.fr hfN (fun h => h) (fun _ h => h.elim))
          clear rl_41
          have rr_44 := Lib.hid (rr_42.out.fr hfN (fun h => h) (fun _ h => h.elim))
          clear rr_42
          have bl_45 := Lib.hid (hfN.row_some bl_31.out (fun h => h))
          clear bl_31
          have bl_46 := Lib.hid hx
          clear hx
          refine hK.out _ _ hHeld (fun _ => ?_)
          clear hK K hfN
          try simp only [Act.put, List.setIfInBounds_toArray, List.set_cons_zero, List.set_cons_succ]
          refine wpAnyH_ready (rs := [6]) (by kernel_rfl) (by simp) ?_
          refine AllReadyH.cons (o := ⟨none, _, _, _, _, _⟩) rfl (fun K hK => ?_) (AllReadyH.nil)
          have q0 : v_39.cell? ⟨v_12.heap.size, 0, none⟩ = some (.slice none 0 0) := by rw [cell_of_row _ _ _ _ _ _ bl_45.out]; rfl
          have q1 : v_39.frozen? ⟨v_12.heap.size, 0, none⟩ = false := frozen_of_row _ _ _ _ _ bl_45.out
          go_simp
          have hx := heap_setCell_same v_39 (v_12.heap.size) 0 _ _ (.slice (some ⟨gl, 0, none⟩) R R) bl_45.out
          have hfN : Fr (fun k => k = v_12.heap.size) v_39 (v_39.setCell ⟨v_12.heap.size, 0, none⟩ (.slice (some ⟨gl, 0, none⟩) R R)) := Fr.setCell (S := fun k => k = v_12.heap.size) (Fr.refl _ _) (.inr rfl) _
          have hHeld := hHeld.setCell (p := ⟨v_12.heap.size, 0, none⟩) (by show _ ≤ v_12.heap.size; omega) (.slice (some ⟨gl, 0, none⟩) R R)
          have hz_48 : v_39.heap.size ≤ (v_39.setCell ⟨v_12.heap.size, 0, none⟩ (.slice (some ⟨gl, 0, none⟩) R R)).heap.size ∧ (v_39.setCell ⟨v_12.heap.size, 0, none⟩ (.slice (some ⟨gl, 0, none⟩) R R)).heap.size ≤ v_39.heap.size := by simp
          obtain ⟨v_47, hw⟩ : ∃ v_47, v_47 = v_39.setCell ⟨v_12.heap.size, 0, none⟩ (.slice (some ⟨gl, 0, none⟩) R R) := ⟨_, rfl⟩
          rw [← hw] at hHeld hx hfN hz_48 ⊢
          clear hw q0 q1
          have rl_49 := Lib.hid (rl_43.out.fr hfN (fun h => by have h : gl = v_12.heap.size := h; omega) (fun b hb => by have hb : b = v_12.heap.size := hb; show b = v_12.heap.size ∨ b = v_25.heap.size; omega))
          clear rl_43
          have rr_50 := Lib.hid (rr_44.out.fr hfN (fun h => by have h : gr = v_12.heap.size := h; omega) (fun b hb => by have hb : b = v_12.heap.size := hb; show b = v_12.heap.size ∨ b = v_25.heap.size; omega))
          clear rr_44
          have bl_52 := Lib.hid (hfN.row_some bl_46.out (fun h => by have h : v_25.heap.size = v_12.heap.size := h; omega))
          clear bl_46
          clear bl_45
          have bl_53 := Lib.hid hx
          clear hx
          refine hK.out _ _ hHeld (fun _ => ?_)
          clear hK K hfN
          try simp only [Act.put, List.setIfInBounds_toArray, List.set_cons_zero, List.set_cons_succ]
          refine wpAnyH_ready (rs := [7]) (by kernel_rfl) (by simp) ?_
          refine AllReadyH.cons (o := ⟨none, _, _, _, _, _⟩) rfl (fun K hK => ?_) (AllReadyH.nil)
          have q0 : v_47.cell? ⟨v_25.heap.size, 0, none⟩ = some (.slice none 0 0) := by rw [cell_of_row _ _ _ _ _ _ bl_52.out]; rfl
          have q1 : v_47.frozen? ⟨v_25.heap.size, 0, none⟩ = false := frozen_of_row _ _ _ _ _ bl_52.out
          go_simp
          have hx := heap_setCell_same v_47 (v_25.heap.size) 0 _ _ (.slice (some ⟨gr, 0, none⟩) C C) bl_52.out
          have hfN : Fr (fun k => k = v_25.heap.size) v_47 (v_47.setCell ⟨v_25.heap.size, 0, none⟩ (.slice (some ⟨gr, 0, none⟩) C C)) := Fr.setCell (S := fun k => k = v_25.heap.size) (Fr.refl _ _) (.inr rfl) _
          have hHeld := hHeld.setCell (p := ⟨v_25.heap.size, 0, none⟩) (by show _ ≤ v_25.heap.size; omega) (.slice (some ⟨gr, 0, none⟩) C C)
          have hz_55 : v_47.heap.size ≤ (v_47.setCell ⟨v_25.heap.size, 0, none⟩ (.slice (some ⟨gr, 0, none⟩) C C)).heap.size ∧ (v_47.setCell ⟨v_25.heap.size, 0, none⟩ (.slice (some ⟨gr, 0, none⟩) C C)).heap.size ≤ v_47.heap.size := by simp
          obtain ⟨v_54, hw⟩ : ∃ v_54, v_54 = v_47.setCell ⟨v_25.heap.size, 0, none⟩ (.slice (some ⟨gr, 0, none⟩) C C) := ⟨_, rfl⟩
          rw [← hw] at hHeld hx hfN hz_55 ⊢
          clear hw q0 q1
          have rl_56 := Lib.hid (rl_49.out.fr hfN (fun h => by have h : gl = v_25.heap.size := h; omega) (fun b hb => by have hb : b = v_25.heap.size := hb; show b = v_12.heap.size ∨ b = v_25.heap.size; omega))
          clear rl_49
          have rr_57 := Lib.hid (rr_50.out.fr hfN (fun h => by have h : gr = v_25.heap.size := h; omega) (fun b hb => by have hb : b = v_25.heap.size := hb; show b = v_12.heap.size ∨ b = v_25.heap.size; omega))
          clear rr_50
          have bl_59 := Lib.hid (hfN.row_some bl_53.out (fun h => by have h : v_12.heap.size = v_25.heap.size := h; omega))
          clear bl_53
          clear bl_52
          have bl_60 := Lib.hid hx
          clear hx
          refine hK.out _ _ hHeld (fun _ => ?_)
          clear hK K hfN
          try simp only [Act.put, List.setIfInBounds_toArray, List.set_cons_zero, List.set_cons_succ]
          refine wpAnyH_done (by kernel_rfl) ?_ _
          go_wp2_with fail
          go_meet
          case rel => exact ⟨v_12.heap.size, v_25.heap.size, gl, gr, rfl, rfl, hHeld, ⟨by omega, by omega⟩, bl_59.out, bl_60.out, rl_56.out.wid (fun _ => False) (fun _ _ h => h.elim), rr_57.out.wid (fun _ => False) (fun _ _ h => h.elim)⟩
        · go_simp
          have hbN : Below v_12.heap.size v_12 (v_12.alloc (.cells #[.slice none 0 0] 57)) := (Below.refl _ _).alloc (Nat.le_refl _) _
          have hx := heap_alloc_new v_12 (.cells #[.slice none 0 0] 57)
          have hz_33 : v_12.heap.size + 1 ≤ (v_12.alloc (.cells #[.slice none 0 0] 57)).heap.size ∧ (v_12.alloc (.cells #[.slice none 0 0] 57)).heap.size ≤ v_12.heap.size + 1 := by simp
          obtain ⟨v_32, hw⟩ : ∃ v_32, v_32 = v_12.alloc (.cells #[.slice none 0 0] 57) := ⟨_, rfl⟩
          rw [← hw] at hbN hx hz_33 ⊢
          clear hw
          have hHeld := hHeld.trans (hbN.mono hHeld.size)
          have hfN : Fr (fun _ => False) v_12 v_32 := Fr.of_below hbN
          have rl_34 := Lib.hid (rl_14.out.wid (fun k => k = v_12.heap.size) (fun b hlt hk => by have hk : b = v_12.heap.size := hk; show False; omega))
          clear rl_14
          have rr_35 := Lib.hid (rr.out.wid (fun k => k = v_12.heap.size) (fun b hlt hk => by have hk : b = v_12.heap.size := hk; show False; omega))
          clear rr
          have rl_36 := Lib.hid (rl_34.out.fr hfN (fun h => h) (fun _ h => h.elim))
          clear rl_34
          have rr_37 := Lib.hid (rr_35.out.fr hfN (fun h => h) (fun _ h => h.elim))
          clear rr_35
          have bl_38 := Lib.hid hx
          clear hx
          refine hK.out _ _ hHeld (fun _ => ?_)
          clear hK K hfN
          try simp only [Act.put, List.setIfInBounds_toArray, List.set_cons_zero, List.set_cons_succ]
          refine wpAnyH_ready (rs := [4]) (by kernel_rfl) (by simp) ?_
          refine AllReadyH.cons (o := ⟨some 8, _, _, _, _, _⟩) rfl (fun K hK => ?_) (AllReadyH.nil)
          go_simp
          have hbN : Below v_32.heap.size v_32 (v_32.alloc (.cells #[.slice none 0 0] 57)) := (Below.refl _ _).alloc (Nat.le_refl _) _
          have hx := heap_alloc_new v_32 (.cells #[.slice none 0 0] 57)
          have hz_62 : v_32.heap.size + 1 ≤ (v_32.alloc (.cells #[.slice none 0 0] 57)).heap.size ∧ (v_32.alloc (.cells #[.slice none 0 0] 57)).heap.size ≤ v_32.heap.size + 1 := by simp
          obtain ⟨v_61, hw⟩ : ∃ v_61, v_61 = v_32.alloc (.cells #[.slice none 0 0] 57) := ⟨_, rfl⟩
          rw [← hw] at hbN hx hz_62 ⊢
          clear hw
          have hHeld := hHeld.trans (hbN.mono hHeld.size)
          have hfN : Fr (fun _ => False) v_32 v_61 := Fr.of_below hbN
          have rl_63 := Lib.hid (rl_36.out.wid (fun k => k = v_12.heap.size ∨ k = v_32.heap.size) (fun b hlt hk => by have hk : b = v_12.heap.size ∨ b = v_32.heap.size := hk; show b = v_12.heap.size; omega))
          clear rl_36
          have rr_64 := Lib.hid (rr_37.out.wid (fun k => k = v_12.heap.size ∨ k = v_32.heap.size) (fun b hlt hk => by have hk : b = v_12.heap.size ∨ b = v_32.heap.size := hk; show b = v_12.heap.size; omega))
          clear rr_37
          have rl_65 := Lib.hid (rl_63.out.fr hfN (fun h => h) (fun _ h => h.elim))
          clear rl_63
          have rr_66 := Lib.hid (rr_64.out.fr hfN (fun h => h) (fun _ h => h.elim))
          clear rr_64
          have bl_67 := Lib.hid (hfN.row_some bl_38.out (fun h => h))
          clear bl_38
          have bl_68 := Lib.hid hx
          clear hx
          refine hK.out _ _ hHeld (fun _ => ?_)
          clear hK K hfN
          try simp only [Act.put, List.setIfInBounds_toArray, List.set_cons_zero, List.set_cons_succ]
          refine wpAnyH_ready (rs := [6]) (by kernel_rfl) (by simp) ?_
          refine AllReadyH.cons (o := ⟨none, _, _, _, _, _⟩) rfl (fun K hK => ?_) (AllReadyH.nil)
          have q0 : v_61.cell? ⟨v_32.heap.size, 0, none⟩ = some (.slice none 0 0) := by rw [cell_of_row _ _ _ _ _ _ bl_68.out]; rfl
          have q1 : v_61.frozen? ⟨v_32.heap.size, 0, none⟩ = false := frozen_of_row _ _ _ _ _ bl_68.out
          go_simp
          have hx := heap_setCell_same v_61 (v_32.heap.size) 0 _ _ (.slice (some ⟨gl, 0, none⟩) R R) bl_68.out
          have hfN : Fr (fun k => k = v_32.heap.size) v_61 (v_61.setCell ⟨v_32.heap.size, 0, none⟩ (.slice (some ⟨gl, 0, none⟩) R R)) := Fr.setCell (S := fun k => k = v_32.heap.size) (Fr.refl _ _) (.inr rfl) _
          have hHeld := hHeld.setCell (p := ⟨v_32.heap.size, 0, none⟩) (by show _ ≤ v_32.heap.size; omega) (.slice (some ⟨gl, 0, none⟩) R R)
          have hz_70 : v_61.heap.size ≤ (v_61.setCell ⟨v_32.heap.size, 0, none⟩ (.slice (some ⟨gl, 0, none⟩) R R)).heap.size ∧ (v_61.setCell ⟨v_32.heap.size, 0, none⟩ (.slice (some ⟨gl, 0, none⟩) R R)).heap.size ≤ v_61.heap.size := by simp
          obtain ⟨v_69, hw⟩ : ∃ v_69, v_69 = v_61.setCell ⟨v_32.heap.size, 0, none⟩ (.slice (some ⟨gl, 0, none⟩) R R) := ⟨_, rfl⟩
          rw [← hw] at hHeld hx hfN hz_70 ⊢
          clear hw q0 q1
          have rl_71 := Lib.hid (rl_65.out.fr hfN (fun h => by have h : gl = v_32.heap.size := h; omega) (fun b hb => by have hb : b = v_32.heap.size := hb; show b = v_12.heap.size ∨ b = v_32.heap.size; omega))
          clear rl_65
          have rr_72 := Lib.hid (rr_66.out.fr hfN (fun h => by have h : gr = v_32.heap.size := h; omega) (fun b hb => by have hb : b = v_32.heap.size := hb; show b = v_12.heap.size ∨ b = v_32.heap.size; omega))
          clear rr_66
          have bl_73 := Lib.hid (hfN.row_some bl_67.out (fun h => by have h : v_12.heap.size = v_32.heap.size := h; omega))
          clear bl_67
          clear bl_68
          have bl_75 := Lib.hid hx
          clear hx
          refine hK.out _ _ hHeld (fun _ => ?_)
          clear hK K hfN
          try simp only [Act.put, List.setIfInBounds_toArray, List.set_cons_zero, List.set_cons_succ]
          refine wpAnyH_ready (rs := [7]) (by kernel_rfl) (by simp) ?_
          refine AllReadyH.cons (o := ⟨none, _, _, _, _, _⟩) rfl (fun K hK => ?_) (AllReadyH.nil)
          have q0 : v_69.cell? ⟨v_12.heap.size, 0, none⟩ = some (.slice none 0 0) := by rw [cell_of_row _ _ _ _ _ _ bl_73.out]; rfl
          have q1 : v_69.frozen? ⟨v_12.heap.size, 0, none⟩ = false := frozen_of_row _ _ _ _ _ bl_73.out
          go_simp
          have hx := heap_setCell_same v_69 (v_12.heap.size) 0 _ _ (.slice (some ⟨gr, 0, none⟩) C C) bl_73.out
          have hfN : Fr (fun k => k = v_12.heap.size) v_69 (v_69.setCell ⟨v_12.heap.size, 0, none⟩ (.slice (some ⟨gr, 0, none⟩) C C)) := Fr.setCell (S := fun k => k = v_12.heap.size) (Fr.refl _ _) (.inr rfl) _
          have hHeld := hHeld.setCell (p := ⟨v_12.heap.size, 0, none⟩) (by show _ ≤ v_12.heap.size; omega) (.slice (some ⟨gr, 0, none⟩) C C)
          have hz_77 : v_69.heap.size ≤ (v_69.setCell ⟨v_12.heap.size, 0, none⟩ (.slice (some ⟨gr, 0, none⟩) C C)).heap.size ∧ (v_69.setCell ⟨v_12.heap.size, 0, none⟩ (.slice (some ⟨gr, 0, none⟩) C C)).heap.size ≤ v_69.heap.size := by simp
          obtain ⟨v_76, hw⟩ : ∃ v_76, v_76 = v_69.setCell ⟨v_12.heap.size, 0, none⟩ (.slice (some ⟨gr, 0, none⟩) C C) := ⟨_, rfl⟩
          rw [← hw] at hHeld hx hfN hz_77 ⊢
          clear hw q0 q1
          have rl_78 := Lib.hid (rl_71.out.fr hfN (fun h => by have h : gl = v_12.heap.size := h; omega) (fun b hb => by have hb : b = v_12.heap.size := hb; show b = v_12.heap.size ∨ b = v_32.heap.size; omega))
          clear rl_71
          have rr_79 := Lib.hid (rr_72.out.fr hfN (fun h => by have h : gr = v_12.heap.size := h; omega) (fun b hb => by have hb : b = v_12.heap.size := hb; show b = v_12.heap.size ∨ b = v_32.heap.size; omega))
          clear rr_72
          have bl_81 := Lib.hid (hfN.row_some bl_75.out (fun h => by have h : v_32.heap.size = v_12.heap.size := h; omega))
          clear bl_75
          clear bl_73
          have bl_82 := Lib.hid hx
          clear hx
          refine hK.out _ _ hHeld (fun _ => ?_)
          clear hK K hfN
          try simp only [Act.put, List.setIfInBounds_toArray, List.set_cons_zero, List.set_cons_succ]
          refine wpAnyH_done (by kernel_rfl) ?_ _
          go_wp2_with fail
          go_meet
          case rel => exact ⟨v_32.heap.size, v_12.heap.size, gl, gr, rfl, rfl, hHeld, ⟨by omega, by omega⟩, bl_81.out, bl_82.out, rl_78.out.wid (fun _ => False) (fun _ _ h => h.elim), rr_79.out.wid (fun _ => False) (fun _ _ h => h.elim)⟩
      · go_simp
        have hbN : Below v_4.heap.size v_4 (v_4.alloc (.cells #[.slice none 0 0] 57)) := (Below.refl _ _).alloc (Nat.le_refl _) _
        have hx := heap_alloc_new v_4 (.cells #[.slice none 0 0] 57)
        have hz_16 : v_4.heap.size + 1 ≤ (v_4.alloc (.cells #[.slice none 0 0] 57)).heap.size ∧ (v_4.alloc (.cells #[.slice none 0 0] 57)).heap.size ≤ v_4.heap.size + 1 := by simp
        obtain ⟨v_15, hw⟩ : ∃ v_15, v_15 = v_4.alloc (.cells #[.slice none 0 0] 57) := ⟨_, rfl⟩
        rw [← hw] at hbN hx hz_16 ⊢
        clear hw
        have hHeld := hHeld.trans (hbN.mono hHeld.size)
        have hfN : Fr (fun _ => False) v_4 v_15 := Fr.of_below hbN
        have rl_17 := Lib.hid (rl.out.wid (fun k => k = v_4.heap.size) (fun b hlt hk => by have hk : b = v_4.heap.size := hk; show False; omega))
        clear rl
        have rl_18 := Lib.hid (rl_17.out.fr hfN (fun h => h) (fun _ h => h.elim))
        clear rl_17
        have bl_19 := Lib.hid hx
        clear hx
        refine hK.out _ _ hHeld (fun _ => ?_)
        clear hK K hfN
        try simp only [Act.put, List.setIfInBounds_toArray, List.set_cons_zero, List.set_cons_succ]
        refine wpAnyH_ready (rs := [3, 5]) (by kernel_rfl) (by simp) ?_
        refine AllReadyH.cons (o := ⟨some 33, _, _, _, _, _⟩) rfl (fun K hK => ?_) (AllReadyH.cons (o := ⟨some 9, _, _, _, _, _⟩) rfl (fun K hK => ?_) (AllReadyH.nil))
        · go_simp
          have hh := columnsOf_any D C Ab Nb cb lb hD1 hD2 hC1 hC2 HNb.out v_15 (HSb.out.below hHeld (Nat.le_refl _))
          refine hh.mono ?_; clear hh; rintro e v_83 ⟨gr, rfl, hgr, hbN, hrow⟩
          have rr := Lib.hid (hrow (fun k => k = v_4.heap.size) (fun b hlt _ hk => by have hk : b = v_4.heap.size := hk; omega))
          clear hrow
          have hgr2 := rr.out.lt
          go_wp2_with fail
          have hHeld := hHeld.trans (hbN.mono hHeld.size)
          have hfN : Fr (fun _ => False) v_15 v_83 := Fr.of_below hbN
          have hz_84 := hbN.size
          have rl_85 := Lib.hid (rl_18.out.fr hfN (fun h => h) (fun _ h => h.elim))
          clear rl_18
          have bl_86 := Lib.hid (hfN.row_some bl_19.out (fun h => h))
          clear bl_19
          clear hbN
          refine hK.out _ _ hHeld (fun _ => ?_)
          clear hK K hfN
          try simp only [Act.put, List.setIfInBounds_toArray, List.set_cons_zero, List.set_cons_succ]
          refine wpAnyH_ready (rs := [5]) (by kernel_rfl) (by simp) ?_
          refine AllReadyH.cons (o := ⟨some 9, _, _, _, _, _⟩) rfl (fun K hK => ?_) (AllReadyH.nil)
          go_simp
          have hbN : Below v_83.heap.size v_83 (v_83.alloc (.cells #[.slice none 0 0] 57)) := (Below.refl _ _).alloc (Nat.le_refl _) _
          have hx := heap_alloc_new v_83 (.cells #[.slice none 0 0] 57)
          have hz_94 : v_83.heap.size + 1 ≤ (v_83.alloc (.cells #[.slice none 0 0] 57)).heap.size ∧ (v_83.alloc (.cells #[.slice none 0 0] 57)).heap.size ≤ v_83.heap.size + 1 := by simp
          obtain ⟨v_93, hw⟩ : ∃ v_93, v_93 = v_83.alloc (.cells #[.slice none 0 0] 57) := ⟨_, rfl⟩
          rw [← hw] at hbN hx hz_94 ⊢
          clear hw
          have hHeld := hHeld.trans (hbN.mono hHeld.size)
          have hfN : Fr (fun _ => False) v_83 v_93 := Fr.of_below hbN
          have rl_95 := Lib.hid (rl_85.out.wid (fun k => k = v_4.heap.size ∨ k = v_83.heap.size) (fun b hlt hk => by have hk : b = v_4.heap.size ∨ b = v_83.heap.size := hk; show b = v_4.heap.size; omega))
          clear rl_85
          have rr_96 := Lib.hid (rr.out.wid (fun k => k = v_4.heap.size ∨ k = v_83.heap.size) (fun b hlt hk => by have hk : b = v_4.heap.size ∨ b = v_83.heap.size := hk; show b = v_4.heap.size; omega))
          clear rr
          have rl_97 := Lib.hid (rl_95.out.fr hfN (fun h => h) (fun _ h => h.elim))
          clear rl_95
          have bl_98 := Lib.hid (hfN.row_some bl_86.out (fun h => h))
          clear bl_86
          have rr_99 := Lib.hid (rr_96.out.fr hfN (fun h => h) (fun _ h => h.elim))
          clear rr_96
          have bl_100 := Lib.hid hx
          clear hx
          refine hK.out _ _ hHeld (fun _ => ?_)
          clear hK K hfN
          try simp only [Act.put, List.setIfInBounds_toArray, List.set_cons_zero, List.set_cons_succ]
          refine wpAnyH_ready (rs := [6]) (by kernel_rfl) (by simp) ?_
          refine AllReadyH.cons (o := ⟨none, _, _, _, _, _⟩) rfl (fun K hK => ?_) (AllReadyH.nil)
          have q0 : v_93.cell? ⟨v_4.heap.size, 0, none⟩ = some (.slice none 0 0) := by rw [cell_of_row _ _ _ _ _ _ bl_98.out]; rfl
          have q1 : v_93.frozen? ⟨v_4.heap.size, 0, none⟩ = false := frozen_of_row _ _ _ _ _ bl_98.out
          go_simp
          have hx := heap_setCell_same v_93 (v_4.heap.size) 0 _ _ (.slice (some ⟨gl, 0, none⟩) R R) bl_98.out
          have hfN : Fr (fun k => k = v_4.heap.size) v_93 (v_93.setCell ⟨v_4.heap.size, 0, none⟩ (.slice (some ⟨gl, 0, none⟩) R R)) := Fr.setCell (S := fun k => k = v_4.heap.size) (Fr.refl _ _) (.inr rfl) _
          have hHeld := hHeld.setCell (p := ⟨v_4.heap.size, 0, none⟩) (by show _ ≤ v_4.heap.size; omega) (.slice (some ⟨gl, 0, none⟩) R R)
          have hz_102 : v_93.heap.size ≤ (v_93.setCell ⟨v_4.heap.size, 0, none⟩ (.slice (some ⟨gl, 0, none⟩) R R)).heap.size ∧ (v_93.setCell ⟨v_4.heap.size, 0, none⟩ (.slice (some ⟨gl, 0, none⟩) R R)).heap.size ≤ v_93.heap.size := by simp
          obtain ⟨v_101, hw⟩ : ∃ v_101, v_101 = v_93.setCell ⟨v_4.heap.size, 0, none⟩ (.slice (some ⟨gl, 0, none⟩) R R) := ⟨_, rfl⟩
          rw [← hw] at hHeld hx hfN hz_102 ⊢
          clear hw q0 q1
          have rl_103 := Lib.hid (rl_97.out.fr hfN (fun h => by have h : gl = v_4.heap.size := h; omega) (fun b hb => by have hb : b = v_4.heap.size := hb; show b = v_4.heap.size ∨ b = v_83.heap.size; omega))
          clear rl_97
          have rr_105 := Lib.hid (rr_99.out.fr hfN (fun h => by have h : gr = v_4.heap.size := h; omega) (fun b hb => by have hb : b = v_4.heap.size := hb; show b = v_4.heap.size ∨ b = v_83.heap.size; omega))
          clear rr_99
          have bl_106 := Lib.hid (hfN.row_some bl_100.out (fun h => by have h : v_83.heap.size = v_4.heap.size := h; omega))
          clear bl_100
          clear bl_98
          have bl_107 := Lib.hid hx
          clear hx
          refine hK.out _ _ hHeld (fun _ => ?_)
          clear hK K hfN
          try simp only [Act.put, List.setIfInBounds_toArray, List.set_cons_zero, List.set_cons_succ]
          refine wpAnyH_ready (rs := [7]) (by kernel_rfl) (by simp) ?_
          refine AllReadyH.cons (o := ⟨none, _, _, _, _, _⟩) rfl (fun K hK => ?_) (AllReadyH.nil)
          have q0 : v_101.cell? ⟨v_83.heap.size, 0, none⟩ = some (.slice none 0 0) := by rw [cell_of_row _ _ _ _ _ _ bl_106.out]; rfl
          have q1 : v_101.frozen? ⟨v_83.heap.size, 0, none⟩ = false := frozen_of_row _ _ _ _ _ bl_106.out
          go_simp
          have hx := heap_setCell_same v_101 (v_83.heap.size) 0 _ _ (.slice (some ⟨gr, 0, none⟩) C C) bl_106.out
          have hfN : Fr (fun k => k = v_83.heap.size) v_101 (v_101.setCell ⟨v_83.heap.size, 0, none⟩ (.slice (some ⟨gr, 0, none⟩) C C)) := Fr.setCell (S := fun k => k = v_83.heap.size) (Fr.refl _ _) (.inr rfl) _
          have hHeld := hHeld.setCell (p := ⟨v_83.heap.size, 0, none⟩) (by show _ ≤ v_83.heap.size; omega) (.slice (some ⟨gr, 0, none⟩) C C)
          have hz_109 : v_101.heap.size ≤ (v_101.setCell ⟨v_83.heap.size, 0, none⟩ (.slice (some ⟨gr, 0, none⟩) C C)).heap.size ∧ (v_101.setCell ⟨v_83.heap.size, 0, none⟩ (.slice (some ⟨gr, 0, none⟩) C C)).heap.size ≤ v_101.heap.size := by simp
          obtain ⟨v_108, hw⟩ : ∃ v_108, v_108 = v_101.setCell ⟨v_83.heap.size, 0, none⟩ (.slice (some ⟨gr, 0, none⟩) C C) := ⟨_, rfl⟩
          rw [← hw] at hHeld hx hfN hz_109 ⊢
          clear hw q0 q1
          have rl_110 := Lib.hid (rl_103.out.fr hfN (fun h => by have h : gl = v_83.heap.size := h; omega) (fun b hb => by have hb : b = v_83.heap.size := hb; show b = v_4.heap.size ∨ b = v_83.heap.size; omega))
          clear rl_103
          have rr_111 := Lib.hid (rr_105.out.fr hfN (fun h => by have h : gr = v_83.heap.size := h; omega) (fun b hb => by have hb : b = v_83.heap.size := hb; show b = v_4.heap.size ∨ b = v_83.heap.size; omega))
          clear rr_105
          have bl_113 := Lib.hid (hfN.row_some bl_107.out (fun h => by have h : v_4.heap.size = v_83.heap.size := h; omega))
          clear bl_107
          clear bl_106
          have bl_114 := Lib.hid hx
          clear hx
          refine hK.out _ _ hHeld (fun _ => ?_)
          clear hK K hfN
          try simp only [Act.put, List.setIfInBounds_toArray, List.set_cons_zero, List.set_cons_succ]
          refine wpAnyH_done (by kernel_rfl) ?_ _
          go_wp2_with fail
          go_meet
          case rel => exact ⟨v_4.heap.size, v_83.heap.size, gl, gr, rfl, rfl, hHeld, ⟨by omega, by omega⟩, bl_113.out, bl_114.out, rl_110.out.wid (fun _ => False) (fun _ _ h => h.elim), rr_111.out.wid (fun _ => False) (fun _ _ h => h.elim)⟩
        · go_simp
          have hbN : Below v_15.heap.size v_15 (v_15.alloc (.cells #[.slice none 0 0] 57)) := (Below.refl _ _).alloc (Nat.le_refl _) _
          have hx := heap_alloc_new v_15 (.cells #[.slice none 0 0] 57)
          have hz_88 : v_15.heap.size + 1 ≤ (v_15.alloc (.cells #[.slice none 0 0] 57)).heap.size ∧ (v_15.alloc (.cells #[.slice none 0 0] 57)).heap.size ≤ v_15.heap.size + 1 := by simp
          obtain ⟨v_87, hw⟩ : ∃ v_87, v_87 = v_15.alloc (.cells #[.slice none 0 0] 57) := ⟨_, rfl⟩
          rw [← hw] at hbN hx hz_88 ⊢
          clear hw
          have hHeld := hHeld.trans (hbN.mono hHeld.size)
          have hfN : Fr (fun _ => False) v_15 v_87 := Fr.of_below hbN
          have rl_89 := Lib.hid (rl_18.out.wid (fun k => k = v_4.heap.size ∨ k = v_15.heap.size) (fun b hlt hk => by have hk : b = v_4.heap.size ∨ b = v_15.heap.size := hk; show b = v_4.heap.size; omega))
          clear rl_18
          have rl_90 := Lib.hid (rl_89.out.fr hfN (fun h => h) (fun _ h => h.elim))
          clear rl_89
          have bl_91 := Lib.hid (hfN.row_some bl_19.out (fun h => h))
          clear bl_19
          have bl_92 := Lib.hid hx
          clear hx
          refine hK.out _ _ hHeld (fun _ => ?_)
          clear hK K hfN
          try simp only [Act.put, List.setIfInBounds_toArray, List.set_cons_zero, List.set_cons_succ]
          refine wpAnyH_ready (rs := [3]) (by kernel_rfl) (by simp) ?_
          refine AllReadyH.cons (o := ⟨some 33, _, _, _, _, _⟩) rfl (fun K hK => ?_) (AllReadyH.nil)
          go_simp
          have hh := columnsOf_any D C Ab Nb cb lb hD1 hD2 hC1 hC2 HNb.out v_87 (HSb.out.below hHeld (Nat.le_refl _))
          refine hh.mono ?_; clear hh; rintro e v_115 ⟨gr, rfl, hgr, hbN, hrow⟩
          have rr := Lib.hid (hrow (fun k => k = v_4.heap.size ∨ k = v_15.heap.size) (fun b hlt _ hk => by have hk : b = v_4.heap.size ∨ b = v_15.heap.size := hk; omega))
          clear hrow
          have hgr2 := rr.out.lt
          go_wp2_with fail
          have hHeld := hHeld.trans (hbN.mono hHeld.size)
          have hfN : Fr (fun _ => False) v_87 v_115 := Fr.of_below hbN
          have hz_116 := hbN.size
          have rl_117 := Lib.hid (rl_90.out.fr hfN (fun h => h) (fun _ h => h.elim))
          clear rl_90
          have bl_118 := Lib.hid (hfN.row_some bl_91.out (fun h => h))
          clear bl_91
          have bl_119 := Lib.hid (hfN.row_some bl_92.out (fun h => h))
          clear bl_92
          clear hbN
          refine hK.out _ _ hHeld (fun _ => ?_)
          clear hK K hfN
          try simp only [Act.put, List.setIfInBounds_toArray, List.set_cons_zero, List.set_cons_succ]
          refine wpAnyH_ready (rs := [6]) (by kernel_rfl) (by simp) ?_
          refine AllReadyH.cons (o := ⟨none, _, _, _, _, _⟩) rfl (fun K hK => ?_) (AllReadyH.nil)
          have q0 : v_115.cell? ⟨v_4.heap.size, 0, none⟩ = some (.slice none 0 0) := by rw [cell_of_row _ _ _ _ _ _ bl_118.out]; rfl
          have q1 : v_115.frozen? ⟨v_4.heap.size, 0, none⟩ = false := frozen_of_row _ _ _ _ _ bl_118.out
          go_simp
          have hx := heap_setCell_same v_115 (v_4.heap.size) 0 _ _ (.slice (some ⟨gl, 0, none⟩) R R) bl_118.out
          have hfN : Fr (fun k => k = v_4.heap.size) v_115 (v_115.setCell ⟨v_4.heap.size, 0, none⟩ (.slice (some ⟨gl, 0, none⟩) R R)) := Fr.setCell (S := fun k => k = v_4.heap.size) (Fr.refl _ _) (.inr rfl) _
          have hHeld := hHeld.setCell (p := ⟨v_4.heap.size, 0, none⟩) (by show _ ≤ v_4.heap.size; omega) (.slice (some ⟨gl, 0, none⟩) R R)
          have hz_121 : v_115.heap.size ≤ (v_115.setCell ⟨v_4.heap.size, 0, none⟩ (.slice (some ⟨gl, 0, none⟩) R R)).heap.size ∧ (v_115.setCell ⟨v_4.heap.size, 0, none⟩ (.slice (some ⟨gl, 0, none⟩) R R)).heap.size ≤ v_115.heap.size := by simp
          obtain ⟨v_120, hw⟩ : ∃ v_120, v_120 = v_115.setCell ⟨v_4.heap.size, 0, none⟩ (.slice (some ⟨gl, 0, none⟩) R R) := ⟨_, rfl⟩
          rw [← hw] at hHeld hx hfN hz_121 ⊢
          clear hw q0 q1
          have rl_122 := Lib.hid (rl_117.out.fr hfN (fun h => by have h : gl = v_4.heap.size := h; omega) (fun b hb => by have hb : b = v_4.heap.size := hb; show b = v_4.heap.size ∨ b = v_15.heap.size; omega))
          clear rl_117
          have bl_124 := Lib.hid (hfN.row_some bl_119.out (fun h => by have h : v_15.heap.size = v_4.heap.size := h; omega))
          clear bl_119
          have rr_125 := Lib.hid (rr.out.fr hfN (fun h => by have h : gr = v_4.heap.size := h; omega) (fun b hb => by have hb : b = v_4.heap.size := hb; show b = v_4.heap.size ∨ b = v_15.heap.size; omega))
          clear rr
          clear bl_118
          have bl_126 := Lib.hid hx
          clear hx
          refine hK.out _ _ hHeld (fun _ => ?_)
          clear hK K hfN
          try simp only [Act.put, List.setIfInBounds_toArray, List.set_cons_zero, List.set_cons_succ]
          refine wpAnyH_ready (rs := [7]) (by kernel_rfl) (by simp) ?_
          refine AllReadyH.cons (o := ⟨none, _, _, _, _, _⟩) rfl (fun K hK => ?_) (AllReadyH.nil)
          have q0 : v_120.cell? ⟨v_15.heap.size, 0, none⟩ = some (.slice none 0 0) := by rw [cell_of_row _ _ _ _ _ _ bl_124.out]; rfl
          have q1 : v_120.frozen? ⟨v_15.heap.size, 0, none⟩ = false := frozen_of_row _ _ _ _ _ bl_124.out
          go_simp
          have hx := heap_setCell_same v_120 (v_15.heap.size) 0 _ _ (.slice (some ⟨gr, 0, none⟩) C C) bl_124.out
          have hfN : Fr (fun k => k = v_15.heap.size) v_120 (v_120.setCell ⟨v_15.heap.size, 0, none⟩ (.slice (some ⟨gr, 0, none⟩) C C)) := Fr.setCell (S := fun k => k = v_15.heap.size) (Fr.refl _ _) (.inr rfl) _
          have hHeld := hHeld.setCell (p := ⟨v_15.heap.size, 0, none⟩) (by show _ ≤ v_15.heap.size; omega) (.slice (some ⟨gr, 0, none⟩) C C)
          have hz_128 : v_120.heap.size ≤ (v_120.setCell ⟨v_15.heap.size, 0, none⟩ (.slice (some ⟨gr, 0, none⟩) C C)).heap.size ∧ (v_120.setCell ⟨v_15.heap.size, 0, none⟩ (.slice (some ⟨gr, 0, none⟩) C C)).heap.size ≤ v_120.heap.size := by simp
          obtain ⟨v_127, hw⟩ : ∃ v_127, v_127 = v_120.setCell ⟨v_15.heap.size, 0, none⟩ (.slice (some ⟨gr, 0, none⟩) C C) := ⟨_, rfl⟩
          rw [← hw] at hHeld hx hfN hz_128 ⊢
          clear hw q0 q1
          have rl_129 := Lib.hid (rl_122.out.fr hfN (fun h => by have h : gl = v_15.heap.size := h; omega) (fun b hb => by have hb : b = v_15.heap.size := hb; show b = v_4.heap.size ∨ b = v_15.heap.size; omega))
          clear rl_122
          have rr_131 := Lib.hid (rr_125.out.fr hfN (fun h => by have h : gr = v_15.heap.size := h; omega) (fun b hb => by have hb : b = v_15.heap.size := hb; show b = v_4.heap.size ∨ b = v_15.heap.size; omega))
          clear rr_125
          have bl_132 := Lib.hid (hfN.row_some bl_126.out (fun h => by have h : v_4.heap.size = v_15.heap.size := h; omega))
          clear bl_126
          clear bl_124
          have bl_133 := Lib.hid hx
          clear hx
          refine hK.out _ _ hHeld (fun _ => ?_)
          clear hK K hfN
          try simp only [Act.put, List.setIfInBounds_toArray, List.set_cons_zero, List.set_cons_succ]
          refine wpAnyH_done (by kernel_rfl) ?_ _
          go_wp2_with fail
          go_meet
          case rel => exact ⟨v_4.heap.size, v_15.heap.size, gl, gr, rfl, rfl, hHeld, ⟨by omega, by omega⟩, bl_132.out, bl_133.out, rl_129.out.wid (fun _ => False) (fun _ _ h => h.elim), rr_131.out.wid (fun _ => False) (fun _ _ h => h.elim)⟩
      · go_simp
        have hbN : Below v_4.heap.size v_4 (v_4.alloc (.cells #[.slice none 0 0] 57)) := (Below.refl _ _).alloc (Nat.le_refl _) _
        have hx := heap_alloc_new v_4 (.cells #[.slice none 0 0] 57)
        have hz_21 : v_4.heap.size + 1 ≤ (v_4.alloc (.cells #[.slice none 0 0] 57)).heap.size ∧ (v_4.alloc (.cells #[.slice none 0 0] 57)).heap.size ≤ v_4.heap.size + 1 := by simp
        obtain ⟨v_20, hw⟩ : ∃ v_20, v_20 = v_4.alloc (.cells #[.slice none 0 0] 57) := ⟨_, rfl⟩
        rw [← hw] at hbN hx hz_21 ⊢
        clear hw
        have hHeld := hHeld.trans (hbN.mono hHeld.size)
        have hfN : Fr (fun _ => False) v_4 v_20 := Fr.of_below hbN
        have rl_22 := Lib.hid (rl.out.wid (fun k => k = v_4.heap.size) (fun b hlt hk => by have hk : b = v_4.heap.size := hk; show False; omega))
        clear rl
        have rl_23 := Lib.hid (rl_22.out.fr hfN (fun h => h) (fun _ h => h.elim))
        clear rl_22
        have bl_24 := Lib.hid hx
        clear hx
        refine hK.out _ _ hHeld (fun _ => ?_)
        clear hK K hfN
        try simp only [Act.put, List.setIfInBounds_toArray, List.set_cons_zero, List.set_cons_succ]
        refine wpAnyH_ready (rs := [3, 4]) (by kernel_rfl) (by simp) ?_
        refine AllReadyH.cons (o := ⟨some 33, _, _, _, _, _⟩) rfl (fun K hK => ?_) (AllReadyH.cons (o := ⟨some 8, _, _, _, _, _⟩) rfl (fun K hK => ?_) (AllReadyH.nil))
        · go_simp
          have hh := columnsOf_any D C Ab Nb cb lb hD1 hD2 hC1 hC2 HNb.out v_20 (HSb.out.below hHeld (Nat.le_refl _))
          refine hh.mono ?_; clear hh; rintro e v_134 ⟨gr, rfl, hgr, hbN, hrow⟩
          have rr := Lib.hid (hrow (fun k => k = v_4.heap.size) (fun b hlt _ hk => by have hk : b = v_4.heap.size := hk; omega))
          clear hrow
          have hgr2 := rr.out.lt
          go_wp2_with fail
          have hHeld := hHeld.trans (hbN.mono hHeld.size)
          have hfN : Fr (fun _ => False) v_20 v_134 := Fr.of_below hbN
          have hz_135 := hbN.size
          have rl_136 := Lib.hid (rl_23.out.fr hfN (fun h => h) (fun _ h => h.elim))
          clear rl_23
          have bl_137 := Lib.hid (hfN.row_some bl_24.out (fun h => h))
          clear bl_24
          clear hbN
          refine hK.out _ _ hHeld (fun _ => ?_)
          clear hK K hfN
          try simp only [Act.put, List.setIfInBounds_toArray, List.set_cons_zero, List.set_cons_succ]
          refine wpAnyH_ready (rs := [4]) (by kernel_rfl) (by simp) ?_
          refine AllReadyH.cons (o := ⟨some 8, _, _, _, _, _⟩) rfl (fun K hK => ?_) (AllReadyH.nil)
          go_simp
          have hbN : Below v_134.heap.size v_134 (v_134.alloc (.cells #[.slice none 0 0] 57)) := (Below.refl _ _).alloc (Nat.le_refl _) _
          have hx := heap_alloc_new v_134 (.cells #[.slice none 0 0] 57)
          have hz_145 : v_134.heap.size + 1 ≤ (v_134.alloc (.cells #[.slice none 0 0] 57)).heap.size ∧ (v_134.alloc (.cells #[.slice none 0 0] 57)).heap.size ≤ v_134.heap.size + 1 := by simp
          obtain ⟨v_144, hw⟩ : ∃ v_144, v_144 = v_134.alloc (.cells #[.slice none 0 0] 57) := ⟨_, rfl⟩
          rw [← hw] at hbN hx hz_145 ⊢
          clear hw
          have hHeld := hHeld.trans (hbN.mono hHeld.size)
          have hfN : Fr (fun _ => False) v_134 v_144 := Fr.of_below hbN
          have rl_146 := Lib.hid (rl_136.out.wid (fun k => k = v_4.heap.size ∨ k = v_134.heap.size) (fun b hlt hk => by have hk : b = v_4.heap.size ∨ b = v_134.heap.size := hk; show b = v_4.heap.size; omega))
          clear rl_136
          have rr_147 := Lib.hid (rr.out.wid (fun k => k = v_4.heap.size ∨ k = v_134.heap.size) (fun b hlt hk => by have hk : b = v_4.heap.size ∨ b = v_134.heap.size := hk; show b = v_4.heap.size; omega))
          clear rr
          have rl_148 := Lib.hid (rl_146.out.fr hfN (fun h => h) (fun _ h => h.elim))
          clear rl_146
          have bl_149 := Lib.hid (hfN.row_some bl_137.out (fun h => h))
          clear bl_137
          have rr_150 := Lib.hid (rr_147.out.fr hfN (fun h => h) (fun _ h => h.elim))
          clear rr_147
          have bl_151 := Lib.hid hx
          clear hx
          refine hK.out _ _ hHeld (fun _ => ?_)
          clear hK K hfN
          try simp only [Act.put, List.setIfInBounds_toArray, List.set_cons_zero, List.set_cons_succ]
          refine wpAnyH_ready (rs := [6]) (by kernel_rfl) (by simp) ?_
          refine AllReadyH.cons (o := ⟨none, _, _, _, _, _⟩) rfl (fun K hK => ?_) (AllReadyH.nil)
          have q0 : v_144.cell? ⟨v_134.heap.size, 0, none⟩ = some (.slice none 0 0) := by rw [cell_of_row _ _ _ _ _ _ bl_151.out]; rfl
          have q1 : v_144.frozen? ⟨v_134.heap.size, 0, none⟩ = false := frozen_of_row _ _ _ _ _ bl_151.out
          go_simp
          have hx := heap_setCell_same v_144 (v_134.heap.size) 0 _ _ (.slice (some ⟨gl, 0, none⟩) R R) bl_151.out
          have hfN : Fr (fun k => k = v_134.heap.size) v_144 (v_144.setCell ⟨v_134.heap.size, 0, none⟩ (.slice (some ⟨gl, 0, none⟩) R R)) := Fr.setCell (S := fun k => k = v_134.heap.size) (Fr.refl _ _) (.inr rfl) _
          have hHeld := hHeld.setCell (p := ⟨v_134.heap.size, 0, none⟩) (by show _ ≤ v_134.heap.size; omega) (.slice (some ⟨gl, 0, none⟩) R R)
          have hz_153 : v_144.heap.size ≤ (v_144.setCell ⟨v_134.heap.size, 0, none⟩ (.slice (some ⟨gl, 0, none⟩) R R)).heap.size ∧ (v_144.setCell ⟨v_134.heap.size, 0, none⟩ (.slice (some ⟨gl, 0, none⟩) R R)).heap.size ≤ v_144.heap.size := by simp
          obtain ⟨v_152, hw⟩ : ∃ v_152, v_152 = v_144.setCell ⟨v_134.heap.size, 0, none⟩ (.slice (some ⟨gl, 0, none⟩) R R) := ⟨_, rfl⟩
          rw [← hw] at hHeld hx hfN hz_153 ⊢
          clear hw q0 q1
          have rl_154 := Lib.hid (rl_148.out.fr hfN (fun h => by have h : gl = v_134.heap.size := h; omega) (fun b hb => by have hb : b = v_134.heap.size := hb; show b = v_4.heap.size ∨ b = v_134.heap.size; omega))
          clear rl_148
          have bl_155 := Lib.hid (hfN.row_some bl_149.out (fun h => by have h : v_4.heap.size = v_134.heap.size := h; omega))
          clear bl_149
          have rr_156 := Lib.hid (rr_150.out.fr hfN (fun h => by have h : gr = v_134.heap.size := h; omega) (fun b hb => by have hb : b = v_134.heap.size := hb; show b = v_4.heap.size ∨ b = v_134.heap.size; omega))
          clear rr_150
          clear bl_151
          have bl_158 := Lib.hid hx
          clear hx
          refine hK.out _ _ hHeld (fun _ => ?_)
          clear hK K hfN
          try simp only [Act.put, List.setIfInBounds_toArray, List.set_cons_zero, List.set_cons_succ]
          refine wpAnyH_ready (rs := [7]) (by kernel_rfl) (by simp) ?_
          refine AllReadyH.cons (o := ⟨none, _, _, _, _, _⟩) rfl (fun K hK => ?_) (AllReadyH.nil)
          have q0 : v_152.cell? ⟨v_4.heap.size, 0, none⟩ = some (.slice none 0 0) := by rw [cell_of_row _ _ _ _ _ _ bl_155.out]; rfl
          have q1 : v_152.frozen? ⟨v_4.heap.size, 0, none⟩ = false := frozen_of_row _ _ _ _ _ bl_155.out
          go_simp
          have hx := heap_setCell_same v_152 (v_4.heap.size) 0 _ _ (.slice (some ⟨gr, 0, none⟩) C C) bl_155.out
          have hfN : Fr (fun k => k = v_4.heap.size) v_152 (v_152.setCell ⟨v_4.heap.size, 0, none⟩ (.slice (some ⟨gr, 0, none⟩) C C)) := Fr.setCell (S := fun k => k = v_4.heap.size) (Fr.refl _ _) (.inr rfl) _
          have hHeld := hHeld.setCell (p := ⟨v_4.heap.size, 0, none⟩) (by show _ ≤ v_4.heap.size; omega) (.slice (some ⟨gr, 0, none⟩) C C)
          have hz_160 : v_152.heap.size ≤ (v_152.setCell ⟨v_4.heap.size, 0, none⟩ (.slice (some ⟨gr, 0, none⟩) C C)).heap.size ∧ (v_152.setCell ⟨v_4.heap.size, 0, none⟩ (.slice (some ⟨gr, 0, none⟩) C C)).heap.size ≤ v_152.heap.size := by simp
          obtain ⟨v_159, hw⟩ : ∃ v_159, v_159 = v_152.setCell ⟨v_4.heap.size, 0, none⟩ (.slice (some ⟨gr, 0, none⟩) C C) := ⟨_, rfl⟩
          rw [← hw] at hHeld hx hfN hz_160 ⊢
          clear hw q0 q1
          have rl_161 := Lib.hid (rl_154.out.fr hfN (fun h => by have h : gl = v_4.heap.size := h; omega) (fun b hb => by have hb : b = v_4.heap.size := hb; show b = v_4.heap.size ∨ b = v_134.heap.size; omega))
          clear rl_154
          have rr_163 := Lib.hid (rr_156.out.fr hfN (fun h => by have h : gr = v_4.heap.size := h; omega) (fun b hb => by have hb : b = v_4.heap.size := hb; show b = v_4.heap.size ∨ b = v_134.heap.size; omega))
          clear rr_156
          have bl_164 := Lib.hid (hfN.row_some bl_158.out (fun h => by have h : v_134.heap.size = v_4.heap.size := h; omega))
          clear bl_158
          clear bl_155
          have bl_165 := Lib.hid hx
          clear hx
          refine hK.out _ _ hHeld (fun _ => ?_)
          clear hK K hfN
          try simp only [Act.put, List.setIfInBounds_toArray, List.set_cons_zero, List.set_cons_succ]
          refine wpAnyH_done (by kernel_rfl) ?_ _
          go_wp2_with fail
          go_meet
          case rel => exact ⟨v_134.heap.size, v_4.heap.size, gl, gr, rfl, rfl, hHeld, ⟨by omega, by omega⟩, bl_164.out, bl_165.out, rl_161.out.wid (fun _ => False) (fun _ _ h => h.elim), rr_163.out.wid (fun _ => False) (fun _ _ h => h.elim)⟩
        · go_simp
          have hbN : Below v_20.heap.size v_20 (v_20.alloc (.cells #[.slice none 0 0] 57)) := (Below.refl _ _).alloc (Nat.le_refl _) _
          have hx := heap_alloc_new v_20 (.cells #[.slice none 0 0] 57)
          have hz_139 : v_20.heap.size + 1 ≤ (v_20.alloc (.cells #[.slice none 0 0] 57)).heap.size ∧ (v_20.alloc (.cells #[.slice none 0 0] 57)).heap.size ≤ v_20.heap.size + 1 := by simp
          obtain ⟨v_138, hw⟩ : ∃ v_138, v_138 = v_20.alloc (.cells #[.slice none 0 0] 57) := ⟨_, rfl⟩
          rw [← hw] at hbN hx hz_139 ⊢
          clear hw
          have hHeld := hHeld.trans (hbN.mono hHeld.size)
          have hfN : Fr (fun _ => False) v_20 v_138 := Fr.of_below hbN
          have rl_140 := Lib.hid (rl_23.out.wid (fun k => k = v_4.heap.size ∨ k = v_20.heap.size) (fun b hlt hk => by have hk : b = v_4.heap.size ∨ b = v_20.heap.size := hk; show b = v_4.heap.size; omega))
          clear rl_23
          have rl_141 := Lib.hid (rl_140.out.fr hfN (fun h => h) (fun _ h => h.elim))
          clear rl_140
          have bl_142 := Lib.hid (hfN.row_some bl_24.out (fun h => h))
          clear bl_24
          have bl_143 := Lib.hid hx
          clear hx
          refine hK.out _ _ hHeld (fun _ => ?_)
          clear hK K hfN
          try simp only [Act.put, List.setIfInBounds_toArray, List.set_cons_zero, List.set_cons_succ]
          refine wpAnyH_ready (rs := [3]) (by kernel_rfl) (by simp) ?_
          refine AllReadyH.cons (o := ⟨some 33, _, _, _, _, _⟩) rfl (fun K hK => ?_) (AllReadyH.nil)
          go_simp
          have hh := columnsOf_any D C Ab Nb cb lb hD1 hD2 hC1 hC2 HNb.out v_138 (HSb.out.below hHeld (Nat.le_refl _))
          refine hh.mono ?_; clear hh; rintro e v_166 ⟨gr, rfl, hgr, hbN, hrow⟩
          have rr := Lib.hid (hrow (fun k => k = v_4.heap.size ∨ k = v_20.heap.size) (fun b hlt _ hk => by have hk : b = v_4.heap.size ∨ b = v_20.heap.size := hk; omega))
          clear hrow
          have hgr2 := rr.out.lt
          go_wp2_with fail
          have hHeld := hHeld.trans (hbN.mono hHeld.size)
          have hfN : Fr (fun _ => False) v_138 v_166 := Fr.of_below hbN
          have hz_167 := hbN.size
          have rl_168 := Lib.hid (rl_141.out.fr hfN (fun h => h) (fun _ h => h.elim))
          clear rl_141
          have bl_169 := Lib.hid (hfN.row_some bl_142.out (fun h => h))
          clear bl_142
          have bl_170 := Lib.hid (hfN.row_some bl_143.out (fun h => h))
          clear bl_143
          clear hbN
          refine hK.out _ _ hHeld (fun _ => ?_)
          clear hK K hfN
          try simp only [Act.put, List.setIfInBounds_toArray, List.set_cons_zero, List.set_cons_succ]
          refine wpAnyH_ready (rs := [6]) (by kernel_rfl) (by simp) ?_
          refine AllReadyH.cons (o := ⟨none, _, _, _, _, _⟩) rfl (fun K hK => ?_) (AllReadyH.nil)
          have q0 : v_166.cell? ⟨v_20.heap.size, 0, none⟩ = some (.slice none 0 0) := by rw [cell_of_row _ _ _ _ _ _ bl_170.out]; rfl
          have q1 : v_166.frozen? ⟨v_20.heap.size, 0, none⟩ = false := frozen_of_row _ _ _ _ _ bl_170.out
          go_simp
          have hx := heap_setCell_same v_166 (v_20.heap.size) 0 _ _ (.slice (some ⟨gl, 0, none⟩) R R) bl_170.out
          have hfN : Fr (fun k => k = v_20.heap.size) v_166 (v_166.setCell ⟨v_20.heap.size, 0, none⟩ (.slice (some ⟨gl, 0, none⟩) R R)) := Fr.setCell (S := fun k => k = v_20.heap.size) (Fr.refl _ _) (.inr rfl) _
          have hHeld := hHeld.setCell (p := ⟨v_20.heap.size, 0, none⟩) (by show _ ≤ v_20.heap.size; omega) (.slice (some ⟨gl, 0, none⟩) R R)
          have hz_172 : v_166.heap.size ≤ (v_166.setCell ⟨v_20.heap.size, 0, none⟩ (.slice (some ⟨gl, 0, none⟩) R R)).heap.size ∧ (v_166.setCell ⟨v_20.heap.size, 0, none⟩ (.slice (some ⟨gl, 0, none⟩) R R)).heap.size ≤ v_166.heap.size := by simp
          obtain ⟨v_171, hw⟩ : ∃ v_171, v_171 = v_166.setCell ⟨v_20.heap.size, 0, none⟩ (.slice (some ⟨gl, 0, none⟩) R R) := ⟨_, rfl⟩
          rw [← hw] at hHeld hx hfN hz_172 ⊢
          clear hw q0 q1
          have rl_173 := Lib.hid (rl_168.out.fr hfN (fun h => by have h : gl = v_20.heap.size := h; omega) (fun b hb => by have hb : b = v_20.heap.size := hb; show b = v_4.heap.size ∨ b = v_20.heap.size; omega))
          clear rl_168
          have bl_174 := Lib.hid (hfN.row_some bl_169.out (fun h => by have h : v_4.heap.size = v_20.heap.size := h; omega))
          clear bl_169
          have rr_176 := Lib.hid (rr.out.fr hfN (fun h => by have h : gr = v_20.heap.size := h; omega) (fun b hb => by have hb : b = v_20.heap.size := hb; show b = v_4.heap.size ∨ b = v_20.heap.size; omega))
          clear rr
          clear bl_170
          have bl_177 := Lib.hid hx
          clear hx
          refine hK.out _ _ hHeld (fun _ => ?_)
          clear hK K hfN
          try simp only [Act.put, List.setIfInBounds_toArray, List.set_cons_zero, List.set_cons_succ]
          refine wpAnyH_ready (rs := [7]) (by kernel_rfl) (by simp) ?_
          refine AllReadyH.cons (o := ⟨none, _, _, _, _, _⟩) rfl (fun K hK => ?_) (AllReadyH.nil)
          have q0 : v_171.cell? ⟨v_4.heap.size, 0, none⟩ = some (.slice none 0 0) := by rw [cell_of_row _ _ _ _ _ _ bl_174.out]; rfl
          have q1 : v_171.frozen? ⟨v_4.heap.size, 0, none⟩ = false := frozen_of_row _ _ _ _ _ bl_174.out
          go_simp
          have hx := heap_setCell_same v_171 (v_4.heap.size) 0 _ _ (.slice (some ⟨gr, 0, none⟩) C C) bl_174.out
          have hfN : Fr (fun k => k = v_4.heap.size) v_171 (v_171.setCell ⟨v_4.heap.size, 0, none⟩ (.slice (some ⟨gr, 0, none⟩) C C)) := Fr.setCell (S := fun k => k = v_4.heap.size) (Fr.refl _ _) (.inr rfl) _
          have hHeld := hHeld.setCell (p := ⟨v_4.heap.size, 0, none⟩) (by show _ ≤ v_4.heap.size; omega) (.slice (some ⟨gr, 0, none⟩) C C)
          have hz_179 : v_171.heap.size ≤ (v_171.setCell ⟨v_4.heap.size, 0, none⟩ (.slice (some ⟨gr, 0, none⟩) C C)).heap.size ∧ (v_171.setCell ⟨v_4.heap.size, 0, none⟩ (.slice (some ⟨gr, 0, none⟩) C C)).heap.size ≤ v_171.heap.size := by simp
          obtain ⟨v_178, hw⟩ : ∃ v_178, v_178 = v_171.setCell ⟨v_4.heap.size, 0, none⟩ (.slice (some ⟨gr, 0, none⟩) C C) := ⟨_, rfl⟩
          rw [← hw] at hHeld hx hfN hz_179 ⊢
          clear hw q0 q1
          have rl_180 := Lib.hid (rl_173.out.fr hfN (fun h => by have h : gl = v_4.heap.size := h; omega) (fun b hb => by have hb : b = v_4.heap.size := hb; show b = v_4.heap.size ∨ b = v_20.heap.size; omega))
          clear rl_173
          have rr_182 := Lib.hid (rr_176.out.fr hfN (fun h => by have h : gr = v_4.heap.size := h; omega) (fun b hb => by have hb : b = v_4.heap.size := hb; show b = v_4.heap.size ∨ b = v_20.heap.size; omega))
          clear rr_176
          have bl_183 := Lib.hid (hfN.row_some bl_177.out (fun h => by have h : v_20.heap.size = v_4.heap.size := h; omega))
          clear bl_177
          clear bl_174
          have bl_184 := Lib.hid hx
          clear hx
          refine hK.out _ _ hHeld (fun _ => ?_)
          clear hK K hfN
          try simp only [Act.put, List.setIfInBounds_toArray, List.set_cons_zero, List.set_cons_succ]
          refine wpAnyH_done (by kernel_rfl) ?_ _
          go_wp2_with fail
          go_meet
          case rel => exact ⟨v_20.heap.size, v_4.heap.size, gl, gr, rfl, rfl, hHeld, ⟨by omega, by omega⟩, bl_183.out, bl_184.out, rl_180.out.wid (fun _ => False) (fun _ _ h => h.elim), rr_182.out.wid (fun _ => False) (fun _ _ h => h.elim)⟩
    · go_simp
      have hbN : Below v_1.heap.size v_1 (v_1.alloc (.cells #[.slice none 0 0] 57)) := (Below.refl _ _).alloc (Nat.le_refl _) _
      have hx := heap_alloc_new v_1 (.cells #[.slice none 0 0] 57)
      have hz_7 : v_1.heap.size + 1 ≤ (v_1.alloc (.cells #[.slice none 0 0] 57)).heap.size ∧ (v_1.alloc (.cells #[.slice none 0 0] 57)).heap.size ≤ v_1.heap.size + 1 := by simp
      obtain ⟨v_6, hw⟩ : ∃ v_6, v_6 = v_1.alloc (.cells #[.slice none 0 0] 57) := ⟨_, rfl⟩
      rw [← hw] at hbN hx hz_7 ⊢
      clear hw
      have hHeld := hHeld.trans (hbN.mono hHeld.size)
      have hfN : Fr (fun _ => False) v_1 v_6 := Fr.of_below hbN
      have bl_8 := Lib.hid hx
      clear hx
      refine hK.out _ _ hHeld (fun _ => ?_)
      clear hK K hfN
      try simp only [Act.put, List.setIfInBounds_toArray, List.set_cons_zero, List.set_cons_succ]
      refine wpAnyH_ready (rs := [1, 5]) (by kernel_rfl) (by simp) ?_
      refine AllReadyH.cons (o := ⟨some 31, _, _, _, _, _⟩) rfl (fun K hK => ?_) (AllReadyH.cons (o := ⟨some 9, _, _, _, _, _⟩) rfl (fun K hK => ?_) (AllReadyH.nil))
      · go_simp
        have hh := rowsOf_any R D Aa Na ca la hR1 hR2 hD1 hD2 HNa.out v_6 (HSa.out.below hHeld (Nat.le_refl _))
        refine hh.mono ?_; clear hh; rintro e v_185 ⟨gl, rfl, hgl, hbN, hrow⟩
        have rl := Lib.hid ((hrow (fun k => k = v_1.heap.size) (fun b o hn hA hk => by have hk : b = v_1.heap.size := hk; have := HSa.out.lt (by decide) hn hA; omega)).at_)
        clear hrow
        have hgl2 := rl.out.lt
        go_wp2_with fail
        have hHeld := hHeld.trans (hbN.mono hHeld.size)
        have hfN : Fr (fun _ => False) v_6 v_185 := Fr.of_below hbN
        have hz_186 := hbN.size
        have bl_187 := Lib.hid (hfN.row_some bl_8.out (fun h => h))
        clear bl_8
        clear hbN
        refine hK.out _ _ hHeld (fun _ => ?_)
        clear hK K hfN
        try simp only [Act.put, List.setIfInBounds_toArray, List.set_cons_zero, List.set_cons_succ]
        refine wpAnyH_ready (rs := [3, 5]) (by kernel_rfl) (by simp) ?_
        refine AllReadyH.cons (o := ⟨some 33, _, _, _, _, _⟩) rfl (fun K hK => ?_) (AllReadyH.cons (o := ⟨some 9, _, _, _, _, _⟩) rfl (fun K hK => ?_) (AllReadyH.nil))
        · go_simp
          have hh := columnsOf_any D C Ab Nb cb lb hD1 hD2 hC1 hC2 HNb.out v_185 (HSb.out.below hHeld (Nat.le_refl _))
          refine hh.mono ?_; clear hh; rintro e v_192 ⟨gr, rfl, hgr, hbN, hrow⟩
          have rr := Lib.hid (hrow (fun k => k = v_1.heap.size) (fun b hlt _ hk => by have hk : b = v_1.heap.size := hk; omega))
          clear hrow
          have hgr2 := rr.out.lt
          go_wp2_with fail
          have hHeld := hHeld.trans (hbN.mono hHeld.size)
          have hfN : Fr (fun _ => False) v_185 v_192 := Fr.of_below hbN
          have hz_193 := hbN.size
          have bl_194 := Lib.hid (hfN.row_some bl_187.out (fun h => h))
          clear bl_187
          have rl_195 := Lib.hid (rl.out.fr hfN (fun h => h) (fun _ h => h.elim))
          clear rl
          clear hbN
          refine hK.out _ _ hHeld (fun _ => ?_)
          clear hK K hfN
          try simp only [Act.put, List.setIfInBounds_toArray, List.set_cons_zero, List.set_cons_succ]
          refine wpAnyH_ready (rs := [5]) (by kernel_rfl) (by simp) ?_
          refine AllReadyH.cons (o := ⟨some 9, _, _, _, _, _⟩) rfl (fun K hK => ?_) (AllReadyH.nil)
          go_simp
          have hbN : Below v_192.heap.size v_192 (v_192.alloc (.cells #[.slice none 0 0] 57)) := (Below.refl _ _).alloc (Nat.le_refl _) _
          have hx := heap_alloc_new v_192 (.cells #[.slice none 0 0] 57)
          have hz_203 : v_192.heap.size + 1 ≤ (v_192.alloc (.cells #[.slice none 0 0] 57)).heap.size ∧ (v_192.alloc (.cells #[.slice none 0 0] 57)).heap.size ≤ v_192.heap.size + 1 := by simp
          obtain ⟨v_202, hw⟩ : ∃ v_202, v_202 = v_192.alloc (.cells #[.slice none 0 0] 57) := ⟨_, rfl⟩
          rw [← hw] at hbN hx hz_203 ⊢
          clear hw
          have hHeld := hHeld.trans (hbN.mono hHeld.size)
          have hfN : Fr (fun _ => False) v_192 v_202 := Fr.of_below hbN
          have rl_204 := Lib.hid (rl_195.out.wid (fun k => k = v_1.heap.size ∨ k = v_192.heap.size) (fun b hlt hk => by have hk : b = v_1.heap.size ∨ b = v_192.heap.size := hk; show b = v_1.heap.size; omega))
          clear rl_195
          have rr_205 := Lib.hid (rr.out.wid (fun k => k = v_1.heap.size ∨ k = v_192.heap.size) (fun b hlt hk => by have hk : b = v_1.heap.size ∨ b = v_192.heap.size := hk; show b = v_1.heap.size; omega))
          clear rr
          have bl_206 := Lib.hid (hfN.row_some bl_194.out (fun h => h))
          clear bl_194
          have rl_207 := Lib.hid (rl_204.out.fr hfN (fun h => h) (fun _ h => h.elim))
          clear rl_204
          have rr_208 := Lib.hid (rr_205.out.fr hfN (fun h => h) (fun _ h => h.elim))
          clear rr_205
          have bl_209 := Lib.hid hx
          clear hx
          refine hK.out _ _ hHeld (fun _ => ?_)
          clear hK K hfN
          try simp only [Act.put, List.setIfInBounds_toArray, List.set_cons_zero, List.set_cons_succ]
          refine wpAnyH_ready (rs := [6]) (by kernel_rfl) (by simp) ?_
          refine AllReadyH.cons (o := ⟨none, _, _, _, _, _⟩) rfl (fun K hK => ?_) (AllReadyH.nil)
          have q0 : v_202.cell? ⟨v_1.heap.size, 0, none⟩ = some (.slice none 0 0) := by rw [cell_of_row _ _ _ _ _ _ bl_206.out]; rfl
          have q1 : v_202.frozen? ⟨v_1.heap.size, 0, none⟩ = false := frozen_of_row _ _ _ _ _ bl_206.out
          go_simp
          have hx := heap_setCell_same v_202 (v_1.heap.size) 0 _ _ (.slice (some ⟨gl, 0, none⟩) R R) bl_206.out
          have hfN : Fr (fun k => k = v_1.heap.size) v_202 (v_202.setCell ⟨v_1.heap.size, 0, none⟩ (.slice (some ⟨gl, 0, none⟩) R R)) := Fr.setCell (S := fun k => k = v_1.heap.size) (Fr.refl _ _) (.inr rfl) _
          have hHeld := hHeld.setCell (p := ⟨v_1.heap.size, 0, none⟩) (by show _ ≤ v_1.heap.size; omega) (.slice (some ⟨gl, 0, none⟩) R R)
          have hz_211 : v_202.heap.size ≤ (v_202.setCell ⟨v_1.heap.size, 0, none⟩ (.slice (some ⟨gl, 0, none⟩) R R)).heap.size ∧ (v_202.setCell ⟨v_1.heap.size, 0, none⟩ (.slice (some ⟨gl, 0, none⟩) R R)).heap.size ≤ v_202.heap.size := by simp
          obtain ⟨v_210, hw⟩ : ∃ v_210, v_210 = v_202.setCell ⟨v_1.heap.size, 0, none⟩ (.slice (some ⟨gl, 0, none⟩) R R) := ⟨_, rfl⟩
          rw [← hw] at hHeld hx hfN hz_211 ⊢
          clear hw q0 q1
          have rl_213 := Lib.hid (rl_207.out.fr hfN (fun h => by have h : gl = v_1.heap.size := h; omega) (fun b hb => by have hb : b = v_1.heap.size := hb; show b = v_1.heap.size ∨ b = v_192.heap.size; omega))
          clear rl_207
          have rr_214 := Lib.hid (rr_208.out.fr hfN (fun h => by have h : gr = v_1.heap.size := h; omega) (fun b hb => by have hb : b = v_1.heap.size := hb; show b = v_1.heap.size ∨ b = v_192.heap.size; omega))
          clear rr_208
          have bl_215 := Lib.hid (hfN.row_some bl_209.out (fun h => by have h : v_192.heap.size = v_1.heap.size := h; omega))
          clear bl_209
          clear bl_206
          have bl_216 := Lib.hid hx
          clear hx
          refine hK.out _ _ hHeld (fun _ => ?_)
          clear hK K hfN
          try simp only [Act.put, List.setIfInBounds_toArray, List.set_cons_zero, List.set_cons_succ]
          refine wpAnyH_ready (rs := [7]) (by kernel_rfl) (by simp) ?_
          refine AllReadyH.cons (o := ⟨none, _, _, _, _, _⟩) rfl (fun K hK => ?_) (AllReadyH.nil)
          have q0 : v_210.cell? ⟨v_192.heap.size, 0, none⟩ = some (.slice none 0 0) := by rw [cell_of_row _ _ _ _ _ _ bl_215.out]; rfl
          have q1 : v_210.frozen? ⟨v_192.heap.size, 0, none⟩ = false := frozen_of_row _ _ _ _ _ bl_215.out
          go_simp
          have hx := heap_setCell_same v_210 (v_192.heap.size) 0 _ _ (.slice (some ⟨gr, 0, none⟩) C C) bl_215.out
          have hfN : Fr (fun k => k = v_192.heap.size) v_210 (v_210.setCell ⟨v_192.heap.size, 0, none⟩ (.slice (some ⟨gr, 0, none⟩) C C)) := Fr.setCell (S := fun k => k = v_192.heap.size) (Fr.refl _ _) (.inr rfl) _
          have hHeld := hHeld.setCell (p := ⟨v_192.heap.size, 0, none⟩) (by show _ ≤ v_192.heap.size; omega) (.slice (some ⟨gr, 0, none⟩) C C)
          have hz_218 : v_210.heap.size ≤ (v_210.setCell ⟨v_192.heap.size, 0, none⟩ (.slice (some ⟨gr, 0, none⟩) C C)).heap.size ∧ (v_210.setCell ⟨v_192.heap.size, 0, none⟩ (.slice (some ⟨gr, 0, none⟩) C C)).heap.size ≤ v_210.heap.size := by simp
          obtain ⟨v_217, hw⟩ : ∃ v_217, v_217 = v_210.setCell ⟨v_192.heap.size, 0, none⟩ (.slice (some ⟨gr, 0, none⟩) C C) := ⟨_, rfl⟩
          rw [← hw] at hHeld hx hfN hz_218 ⊢
          clear hw q0 q1
          have rl_219 := Lib.hid (rl_213.out.fr hfN (fun h => by have h : gl = v_192.heap.size := h; omega) (fun b hb => by have hb : b = v_192.heap.size := hb; show b = v_1.heap.size ∨ b = v_192.heap.size; omega))
          clear rl_213
          have rr_220 := Lib.hid (rr_214.out.fr hfN (fun h => by have h : gr = v_192.heap.size := h; omega) (fun b hb => by have hb : b = v_192.heap.size := hb; show b = v_1.heap.size ∨ b = v_192.heap.size; omega))
          clear rr_214
          have bl_222 := Lib.hid (hfN.row_some bl_216.out (fun h => by have h : v_1.heap.size = v_192.heap.size := h; omega))
          clear bl_216
          clear bl_215
          have bl_223 := Lib.hid hx
          clear hx
          refine hK.out _ _ hHeld (fun _ => ?_)
          clear hK K hfN
          try simp only [Act.put, List.setIfInBounds_toArray, List.set_cons_zero, List.set_cons_succ]
          refine wpAnyH_done (by kernel_rfl) ?_ _
          go_wp2_with fail
          go_meet
          case rel => exact ⟨v_1.heap.size, v_192.heap.size, gl, gr, rfl, rfl, hHeld, ⟨by omega, by omega⟩, bl_222.out, bl_223.out, rl_219.out.wid (fun _ => False) (fun _ _ h => h.elim), rr_220.out.wid (fun _ => False) (fun _ _ h => h.elim)⟩
        · go_simp
          have hbN : Below v_185.heap.size v_185 (v_185.alloc (.cells #[.slice none 0 0] 57)) := (Below.refl _ _).alloc (Nat.le_refl _) _
          have hx := heap_alloc_new v_185 (.cells #[.slice none 0 0] 57)
          have hz_197 : v_185.heap.size + 1 ≤ (v_185.alloc (.cells #[.slice none 0 0] 57)).heap.size ∧ (v_185.alloc (.cells #[.slice none 0 0] 57)).heap.size ≤ v_185.heap.size + 1 := by simp
          obtain ⟨v_196, hw⟩ : ∃ v_196, v_196 = v_185.alloc (.cells #[.slice none 0 0] 57) := ⟨_, rfl⟩
          rw [← hw] at hbN hx hz_197 ⊢
          clear hw
          have hHeld := hHeld.trans (hbN.mono hHeld.size)
          have hfN : Fr (fun _ => False) v_185 v_196 := Fr.of_below hbN
          have rl_198 := Lib.hid (rl.out.wid (fun k => k = v_1.heap.size ∨ k = v_185.heap.size) (fun b hlt hk => by have hk : b = v_1.heap.size ∨ b = v_185.heap.size := hk; show b = v_1.heap.size; omega))
          clear rl
          have bl_199 := Lib.hid (hfN.row_some bl_187.out (fun h => h))
          clear bl_187
          have rl_200 := Lib.hid (rl_198.out.fr hfN (fun h => h) (fun _ h => h.elim))
          clear rl_198
          have bl_201 := Lib.hid hx
          clear hx
          refine hK.out _ _ hHeld (fun _ => ?_)
          clear hK K hfN
          try simp only [Act.put, List.setIfInBounds_toArray, List.set_cons_zero, List.set_cons_succ]
          refine wpAnyH_ready (rs := [3]) (by kernel_rfl) (by simp) ?_
          refine AllReadyH.cons (o := ⟨some 33, _, _, _, _, _⟩) rfl (fun K hK => ?_) (AllReadyH.nil)
          go_simp
          have hh := columnsOf_any D C Ab Nb cb lb hD1 hD2 hC1 hC2 HNb.out v_196 (HSb.out.below hHeld (Nat.le_refl _))
          refine hh.mono ?_; clear hh; rintro e v_224 ⟨gr, rfl, hgr, hbN, hrow⟩
          have rr := Lib.hid (hrow (fun k => k = v_1.heap.size ∨ k = v_185.heap.size) (fun b hlt _ hk => by have hk : b = v_1.heap.size ∨ b = v_185.heap.size := hk; omega))
          clear hrow
          have hgr2 := rr.out.lt
          go_wp2_with fail
          have hHeld := hHeld.trans (hbN.mono hHeld.size)
          have hfN : Fr (fun _ => False) v_196 v_224 := Fr.of_below hbN
          have hz_225 := hbN.size
          have bl_226 := Lib.hid (hfN.row_some bl_199.out (fun h => h))
          clear bl_199
          have rl_227 := Lib.hid (rl_200.out.fr hfN (fun h => h) (fun _ h => h.elim))
          clear rl_200
          have bl_228 := Lib.hid (hfN.row_some bl_201.out (fun h => h))
          clear bl_201
          clear hbN
          refine hK.out _ _ hHeld (fun _ => ?_)
          clear hK K hfN
          try simp only [Act.put, List.setIfInBounds_toArray, List.set_cons_zero, List.set_cons_succ]
          refine wpAnyH_ready (rs := [6]) (by kernel_rfl) (by simp) ?_
          refine AllReadyH.cons (o := ⟨none, _, _, _, _, _⟩) rfl (fun K hK => ?_) (AllReadyH.nil)
          have q0 : v_224.cell? ⟨v_1.heap.size, 0, none⟩ = some (.slice none 0 0) := by rw [cell_of_row _ _ _ _ _ _ bl_226.out]; rfl
          have q1 : v_224.frozen? ⟨v_1.heap.size, 0, none⟩ = false := frozen_of_row _ _ _ _ _ bl_226.out
          go_simp
          have hx := heap_setCell_same v_224 (v_1.heap.size) 0 _ _ (.slice (some ⟨gl, 0, none⟩) R R) bl_226.out
          have hfN : Fr (fun k => k = v_1.heap.size) v_224 (v_224.setCell ⟨v_1.heap.size, 0, none⟩ (.slice (some ⟨gl, 0, none⟩) R R)) := Fr.setCell (S := fun k => k = v_1.heap.size) (Fr.refl _ _) (.inr rfl) _
          have hHeld := hHeld.setCell (p := ⟨v_1.heap.size, 0, none⟩) (by show _ ≤ v_1.heap.size; omega) (.slice (some ⟨gl, 0, none⟩) R R)
          have hz_230 : v_224.heap.size ≤ (v_224.setCell ⟨v_1.heap.size, 0, none⟩ (.slice (some ⟨gl, 0, none⟩) R R)).heap.size ∧ (v_224.setCell ⟨v_1.heap.size, 0, none⟩ (.slice (some ⟨gl, 0, none⟩) R R)).heap.size ≤ v_224.heap.size := by simp
          obtain ⟨v_229, hw⟩ : ∃ v_229, v_229 = v_224.setCell ⟨v_1.heap.size, 0, none⟩ (.slice (some ⟨gl, 0, none⟩) R R) := ⟨_, rfl⟩
          rw [← hw] at hHeld hx hfN hz_230 ⊢
          clear hw q0 q1
          have rl_232 := Lib.hid (rl_227.out.fr hfN (fun h => by have h : gl = v_1.heap.size := h; omega) (fun b hb => by have hb : b = v_1.heap.size := hb; show b = v_1.heap.size ∨ b = v_185.heap.size; omega))
          clear rl_227
          have bl_233 := Lib.hid (hfN.row_some bl_228.out (fun h => by have h : v_185.heap.size = v_1.heap.size := h; omega))
          clear bl_228
          have rr_234 := Lib.hid (rr.out.fr hfN (fun h => by have h : gr = v_1.heap.size := h; omega) (fun b hb => by have hb : b = v_1.heap.size := hb; show b = v_1.heap.size ∨ b = v_185.heap.size; omega))
          clear rr
          clear bl_226
          have bl_235 := Lib.hid hx
          clear hx
          refine hK.out _ _ hHeld (fun _ => ?_)
          clear hK K hfN
          try simp only [Act.put, List.setIfInBounds_toArray, List.set_cons_zero, List.set_cons_succ]
          refine wpAnyH_ready (rs := [7]) (by kernel_rfl) (by simp) ?_
          refine AllReadyH.cons (o := ⟨none, _, _, _, _, _⟩) rfl (fun K hK => ?_) (AllReadyH.nil)
          have q0 : v_229.cell? ⟨v_185.heap.size, 0, none⟩ = some (.slice none 0 0) := by rw [cell_of_row _ _ _ _ _ _ bl_233.out]; rfl
          have q1 : v_229.frozen? ⟨v_185.heap.size, 0, none⟩ = false := frozen_of_row _ _ _ _ _ bl_233.out
          go_simp
          have hx := heap_setCell_same v_229 (v_185.heap.size) 0 _ _ (.slice (some ⟨gr, 0, none⟩) C C) bl_233.out
          have hfN : Fr (fun k => k = v_185.heap.size) v_229 (v_229.setCell ⟨v_185.heap.size, 0, none⟩ (.slice (some ⟨gr, 0, none⟩) C C)) := Fr.setCell (S := fun k => k = v_185.heap.size) (Fr.refl _ _) (.inr rfl) _
          have hHeld := hHeld.setCell (p := ⟨v_185.heap.size, 0, none⟩) (by show _ ≤ v_185.heap.size; omega) (.slice (some ⟨gr, 0, none⟩) C C)
          have hz_237 : v_229.heap.size ≤ (v_229.setCell ⟨v_185.heap.size, 0, none⟩ (.slice (some ⟨gr, 0, none⟩) C C)).heap.size ∧ (v_229.setCell ⟨v_185.heap.size, 0, none⟩ (.slice (some ⟨gr, 0, none⟩) C C)).heap.size ≤ v_229.heap.size := by simp
          obtain ⟨v_236, hw⟩ : ∃ v_236, v_236 = v_229.setCell ⟨v_185.heap.size, 0, none⟩ (.slice (some ⟨gr, 0, none⟩) C C) := ⟨_, rfl⟩
          rw [← hw] at hHeld hx hfN hz_237 ⊢
          clear hw q0 q1
          have rl_238 := Lib.hid (rl_232.out.fr hfN (fun h => by have h : gl = v_185.heap.size := h; omega) (fun b hb => by have hb : b = v_185.heap.size := hb; show b = v_1.heap.size ∨ b = v_185.heap.size; omega))
          clear rl_232
          have rr_240 := Lib.hid (rr_234.out.fr hfN (fun h => by have h : gr = v_185.heap.size := h; omega) (fun b hb => by have hb : b = v_185.heap.size := hb; show b = v_1.heap.size ∨ b = v_185.heap.size; omega))
          clear rr_234
          have bl_241 := Lib.hid (hfN.row_some bl_235.out (fun h => by have h : v_1.heap.size = v_185.heap.size := h; omega))
          clear bl_235
          clear bl_233
          have bl_242 := Lib.hid hx
          clear hx
          refine hK.out _ _ hHeld (fun _ => ?_)
          clear hK K hfN
          try simp only [Act.put, List.setIfInBounds_toArray, List.set_cons_zero, List.set_cons_succ]
          refine wpAnyH_done (by kernel_rfl) ?_ _
          go_wp2_with fail
          go_meet
          case rel => exact ⟨v_1.heap.size, v_185.heap.size, gl, gr, rfl, rfl, hHeld, ⟨by omega, by omega⟩, bl_241.out, bl_242.out, rl_238.out.wid (fun _ => False) (fun _ _ h => h.elim), rr_240.out.wid (fun _ => False) (fun _ _ h => h.elim)⟩
      · go_simp
        have hbN : Below v_6.heap.size v_6 (v_6.alloc (.cells #[.slice none 0 0] 57)) := (Below.refl _ _).alloc (Nat.le_refl _) _
        have hx := heap_alloc_new v_6 (.cells #[.slice none 0 0] 57)
        have hz_189 : v_6.heap.size + 1 ≤ (v_6.alloc (.cells #[.slice none 0 0] 57)).heap.size ∧ (v_6.alloc (.cells #[.slice none 0 0] 57)).heap.size ≤ v_6.heap.size + 1 := by simp
        obtain ⟨v_188, hw⟩ : ∃ v_188, v_188 = v_6.alloc (.cells #[.slice none 0 0] 57) := ⟨_, rfl⟩
        rw [← hw] at hbN hx hz_189 ⊢
        clear hw
        have hHeld := hHeld.trans (hbN.mono hHeld.size)
        have hfN : Fr (fun _ => False) v_6 v_188 := Fr.of_below hbN
        have bl_190 := Lib.hid (hfN.row_some bl_8.out (fun h => h))
        clear bl_8
        have bl_191 := Lib.hid hx
        clear hx
        refine hK.out _ _ hHeld (fun _ => ?_)
        clear hK K hfN
        try simp only [Act.put, List.setIfInBounds_toArray, List.set_cons_zero, List.set_cons_succ]
        refine wpAnyH_ready (rs := [1]) (by kernel_rfl) (by simp) ?_
        refine AllReadyH.cons (o := ⟨some 31, _, _, _, _, _⟩) rfl (fun K hK => ?_) (AllReadyH.nil)
        go_simp
        have hh := rowsOf_any R D Aa Na ca la hR1 hR2 hD1 hD2 HNa.out v_188 (HSa.out.below hHeld (Nat.le_refl _))
        refine hh.mono ?_; clear hh; rintro e v_243 ⟨gl, rfl, hgl, hbN, hrow⟩
        have rl := Lib.hid ((hrow (fun k => k = v_1.heap.size ∨ k = v_6.heap.size) (fun b o hn hA hk => by have hk : b = v_1.heap.size ∨ b = v_6.heap.size := hk; have := HSa.out.lt (by decide) hn hA; omega)).at_)
        clear hrow
        have hgl2 := rl.out.lt
        go_wp2_with fail
        have hHeld := hHeld.trans (hbN.mono hHeld.size)
        have hfN : Fr (fun _ => False) v_188 v_243 := Fr.of_below hbN
        have hz_244 := hbN.size
        have bl_245 := Lib.hid (hfN.row_some bl_190.out (fun h => h))
        clear bl_190
        have bl_246 := Lib.hid (hfN.row_some bl_191.out (fun h => h))
        clear bl_191
        clear hbN
        refine hK.out _ _ hHeld (fun _ => ?_)
        clear hK K hfN
        try simp only [Act.put, List.setIfInBounds_toArray, List.set_cons_zero, List.set_cons_succ]
        refine wpAnyH_ready (rs := [3]) (by kernel_rfl) (by simp) ?_
        refine AllReadyH.cons (o := ⟨some 33, _, _, _, _, _⟩) rfl (fun K hK => ?_) (AllReadyH.nil)
        go_simp
        have hh := columnsOf_any D C Ab Nb cb lb hD1 hD2 hC1 hC2 HNb.out v_243 (HSb.out.below hHeld (Nat.le_refl _))
        refine hh.mono ?_; clear hh; rintro e v_247 ⟨gr, rfl, hgr, hbN, hrow⟩
        have rr := Lib.hid (hrow (fun k => k = v_1.heap.size ∨ k = v_6.heap.size) (fun b hlt _ hk => by have hk : b = v_1.heap.size ∨ b = v_6.heap.size := hk; omega))
        clear hrow
        have hgr2 := rr.out.lt
        go_wp2_with fail
        have hHeld := hHeld.trans (hbN.mono hHeld.size)
        have hfN : Fr (fun _ => False) v_243 v_247 := Fr.of_below hbN
        have hz_248 := hbN.size
        have bl_249 := Lib.hid (hfN.row_some bl_245.out (fun h => h))
        clear bl_245
        have bl_250 := Lib.hid (hfN.row_some bl_246.out (fun h => h))
        clear bl_246
        have rl_251 := Lib.hid (rl.out.fr hfN (fun h => h) (fun _ h => h.elim))
        clear rl
        clear hbN
        refine hK.out _ _ hHeld (fun _ => ?_)
        clear hK K hfN
        try simp only [Act.put, List.setIfInBounds_toArray, List.set_cons_zero, List.set_cons_succ]
        refine wpAnyH_ready (rs := [6]) (by kernel_rfl) (by simp) ?_
        refine AllReadyH.cons (o := ⟨none, _, _, _, _, _⟩) rfl (fun K hK => ?_) (AllReadyH.nil)
        have q0 : v_247.cell? ⟨v_1.heap.size, 0, none⟩ = some (.slice none 0 0) := by rw [cell_of_row _ _ _ _ _ _ bl_249.out]; rfl
        have q1 : v_247.frozen? ⟨v_1.heap.size, 0, none⟩ = false := frozen_of_row _ _ _ _ _ bl_249.out
        go_simp
        have hx := heap_setCell_same v_247 (v_1.heap.size) 0 _ _ (.slice (some ⟨gl, 0, none⟩) R R) bl_249.out
        have hfN : Fr (fun k => k = v_1.heap.size) v_247 (v_247.setCell ⟨v_1.heap.size, 0, none⟩ (.slice (some ⟨gl, 0, none⟩) R R)) := Fr.setCell (S := fun k => k = v_1.heap.size) (Fr.refl _ _) (.inr rfl) _
        have hHeld := hHeld.setCell (p := ⟨v_1.heap.size, 0, none⟩) (by show _ ≤ v_1.heap.size; omega) (.slice (some ⟨gl, 0, none⟩) R R)
        have hz_253 : v_247.heap.size ≤ (v_247.setCell ⟨v_1.heap.size, 0, none⟩ (.slice (some ⟨gl, 0, none⟩) R R)).heap.size ∧ (v_247.setCell ⟨v_1.heap.size, 0, none⟩ (.slice (some ⟨gl, 0, none⟩) R R)).heap.size ≤ v_247.heap.size := by simp
        obtain ⟨v_252, hw⟩ : ∃ v_252, v_252 = v_247.setCell ⟨v_1.heap.size, 0, none⟩ (.slice (some ⟨gl, 0, none⟩) R R) := ⟨_, rfl⟩
        rw [← hw] at hHeld hx hfN hz_253 ⊢
        clear hw q0 q1
        have bl_255 := Lib.hid (hfN.row_some bl_250.out (fun h => by have h : v_6.heap.size = v_1.heap.size := h; omega))
        clear bl_250
        have rl_256 := Lib.hid (rl_251.out.fr hfN (fun h => by have h : gl = v_1.heap.size := h; omega) (fun b hb => by have hb : b = v_1.heap.size := hb; show b = v_1.heap.size ∨ b = v_6.heap.size; omega))
        clear rl_251
        have rr_257 := Lib.hid (rr.out.fr hfN (fun h => by have h : gr = v_1.heap.size := h; omega) (fun b hb => by have hb : b = v_1.heap.size := hb; show b = v_1.heap.size ∨ b = v_6.heap.size; omega))
        clear rr
        clear bl_249
        have bl_258 := Lib.hid hx
        clear hx
        refine hK.out _ _ hHeld (fun _ => ?_)
        clear hK K hfN
        try simp only [Act.put, List.setIfInBounds_toArray, List.set_cons_zero, List.set_cons_succ]
        refine wpAnyH_ready (rs := [7]) (by kernel_rfl) (by simp) ?_
        refine AllReadyH.cons (o := ⟨none, _, _, _, _, _⟩) rfl (fun K hK => ?_) (AllReadyH.nil)
        have q0 : v_252.cell? ⟨v_6.heap.size, 0, none⟩ = some (.slice none 0 0) := by rw [cell_of_row _ _ _ _ _ _ bl_255.out]; rfl
        have q1 : v_252.frozen? ⟨v_6.heap.size, 0, none⟩ = false := frozen_of_row _ _ _ _ _ bl_255.out
        go_simp
        have hx := heap_setCell_same v_252 (v_6.heap.size) 0 _ _ (.slice (some ⟨gr, 0, none⟩) C C) bl_255.out
        have hfN : Fr (fun k => k = v_6.heap.size) v_252 (v_252.setCell ⟨v_6.heap.size, 0, none⟩ (.slice (some ⟨gr, 0, none⟩) C C)) := Fr.setCell (S := fun k => k = v_6.heap.size) (Fr.refl _ _) (.inr rfl) _
        have hHeld := hHeld.setCell (p := ⟨v_6.heap.size, 0, none⟩) (by show _ ≤ v_6.heap.size; omega) (.slice (some ⟨gr, 0, none⟩) C C)
        have hz_260 : v_252.heap.size ≤ (v_252.setCell ⟨v_6.heap.size, 0, none⟩ (.slice (some ⟨gr, 0, none⟩) C C)).heap.size ∧ (v_252.setCell ⟨v_6.heap.size, 0, none⟩ (.slice (some ⟨gr, 0, none⟩) C C)).heap.size ≤ v_252.heap.size := by simp
        obtain ⟨v_259, hw⟩ : ∃ v_259, v_259 = v_252.setCell ⟨v_6.heap.size, 0, none⟩ (.slice (some ⟨gr, 0, none⟩) C C) := ⟨_, rfl⟩
        rw [← hw] at hHeld hx hfN hz_260 ⊢
        clear hw q0 q1
        have rl_262 := Lib.hid (rl_256.out.fr hfN (fun h => by have h : gl = v_6.heap.size := h; omega) (fun b hb => by have hb : b = v_6.heap.size := hb; show b = v_1.heap.size ∨ b = v_6.heap.size; omega))
        clear rl_256
        have rr_263 := Lib.hid (rr_257.out.fr hfN (fun h => by have h : gr = v_6.heap.size := h; omega) (fun b hb => by have hb : b = v_6.heap.size := hb; show b = v_1.heap.size ∨ b = v_6.heap.size; omega))
        clear rr_257
        have bl_264 := Lib.hid (hfN.row_some bl_258.out (fun h => by have h : v_1.heap.size = v_6.heap.size := h; omega))
        clear bl_258
        clear bl_255
        have bl_265 := Lib.hid hx
        clear hx
        refine hK.out _ _ hHeld (fun _ => ?_)
        clear hK K hfN
        try simp only [Act.put, List.setIfInBounds_toArray, List.set_cons_zero, List.set_cons_succ]
        refine wpAnyH_done (by kernel_rfl) ?_ _
        go_wp2_with fail
        go_meet
        case rel => exact ⟨v_1.heap.size, v_6.heap.size, gl, gr, rfl, rfl, hHeld, ⟨by omega, by omega⟩, bl_264.out, bl_265.out, rl_262.out.wid (fun _ => False) (fun _ _ h => h.elim), rr_263.out.wid (fun _ => False) (fun _ _ h => h.elim)⟩
    · go_simp
      have hbN : Below v_1.heap.size v_1 (v_1.alloc (.cells #[.slice none 0 0] 57)) := (Below.refl _ _).alloc (Nat.le_refl _) _
      have hx := heap_alloc_new v_1 (.cells #[.slice none 0 0] 57)
      have hz_10 : v_1.heap.size + 1 ≤ (v_1.alloc (.cells #[.slice none 0 0] 57)).heap.size ∧ (v_1.alloc (.cells #[.slice none 0 0] 57)).heap.size ≤ v_1.heap.size + 1 := by simp
      obtain ⟨v_9, hw⟩ : ∃ v_9, v_9 = v_1.alloc (.cells #[.slice none 0 0] 57) := ⟨_, rfl⟩
      rw [← hw] at hbN hx hz_10 ⊢
      clear hw
      have hHeld := hHeld.trans (hbN.mono hHeld.size)
      have hfN : Fr (fun _ => False) v_1 v_9 := Fr.of_below hbN
      have bl_11 := Lib.hid hx
      clear hx
      refine hK.out _ _ hHeld (fun _ => ?_)
      clear hK K hfN
      try simp only [Act.put, List.setIfInBounds_toArray, List.set_cons_zero, List.set_cons_succ]
      refine wpAnyH_ready (rs := [1, 4]) (by kernel_rfl) (by simp) ?_
      refine AllReadyH.cons (o := ⟨some 31, _, _, _, _, _⟩) rfl (fun K hK => ?_) (AllReadyH.cons (o := ⟨some 8, _, _, _, _, _⟩) rfl (fun K hK => ?_) (AllReadyH.nil))
      · go_simp
        have hh := rowsOf_any R D Aa Na ca la hR1 hR2 hD1 hD2 HNa.out v_9 (HSa.out.below hHeld (Nat.le_refl _))
        refine hh.mono ?_; clear hh; rintro e v_266 ⟨gl, rfl, hgl, hbN, hrow⟩
        have rl := Lib.hid ((hrow (fun k => k = v_1.heap.size) (fun b o hn hA hk => by have hk : b = v_1.heap.size := hk; have := HSa.out.lt (by decide) hn hA; omega)).at_)
        clear hrow
        have hgl2 := rl.out.lt
        go_wp2_with fail
        have hHeld := hHeld.trans (hbN.mono hHeld.size)
        have hfN : Fr (fun _ => False) v_9 v_266 := Fr.of_below hbN
        have hz_267 := hbN.size
        have bl_268 := Lib.hid (hfN.row_some bl_11.out (fun h => h))
        clear bl_11
        clear hbN
        refine hK.out _ _ hHeld (fun _ => ?_)
        clear hK K hfN
        try simp only [Act.put, List.setIfInBounds_toArray, List.set_cons_zero, List.set_cons_succ]
        refine wpAnyH_ready (rs := [3, 4]) (by kernel_rfl) (by simp) ?_
        refine AllReadyH.cons (o := ⟨some 33, _, _, _, _, _⟩) rfl (fun K hK => ?_) (AllReadyH.cons (o := ⟨some 8, _, _, _, _, _⟩) rfl (fun K hK => ?_) (AllReadyH.nil))
        · go_simp
          have hh := columnsOf_any D C Ab Nb cb lb hD1 hD2 hC1 hC2 HNb.out v_266 (HSb.out.below hHeld (Nat.le_refl _))
          refine hh.mono ?_; clear hh; rintro e v_273 ⟨gr, rfl, hgr, hbN, hrow⟩
          have rr := Lib.hid (hrow (fun k => k = v_1.heap.size) (fun b hlt _ hk => by have hk : b = v_1.heap.size := hk; omega))
          clear hrow
          have hgr2 := rr.out.lt
          go_wp2_with fail
          have hHeld := hHeld.trans (hbN.mono hHeld.size)
          have hfN : Fr (fun _ => False) v_266 v_273 := Fr.of_below hbN
          have hz_274 := hbN.size
          have bl_275 := Lib.hid (hfN.row_some bl_268.out (fun h => h))
          clear bl_268
          have rl_276 := Lib.hid (rl.out.fr hfN (fun h => h) (fun _ h => h.elim))
          clear rl
          clear hbN
          refine hK.out _ _ hHeld (fun _ => ?_)
          clear hK K hfN
          try simp only [Act.put, List.setIfInBounds_toArray, List.set_cons_zero, List.set_cons_succ]
          refine wpAnyH_ready (rs := [4]) (by kernel_rfl) (by simp) ?_
          refine AllReadyH.cons (o := ⟨some 8, _, _, _, _, _⟩) rfl (fun K hK => ?_) (AllReadyH.nil)
          go_simp
          have hbN : Below v_273.heap.size v_273 (v_273.alloc (.cells #[.slice none 0 0] 57)) := (Below.refl _ _).alloc (Nat.le_refl _) _
          have hx := heap_alloc_new v_273 (.cells #[.slice none 0 0] 57)
          have hz_284 : v_273.heap.size + 1 ≤ (v_273.alloc (.cells #[.slice none 0 0] 57)).heap.size ∧ (v_273.alloc (.cells #[.slice none 0 0] 57)).heap.size ≤ v_273.heap.size + 1 := by simp
          obtain ⟨v_283, hw⟩ : ∃ v_283, v_283 = v_273.alloc (.cells #[.slice none 0 0] 57) := ⟨_, rfl⟩
          rw [← hw] at hbN hx hz_284 ⊢
          clear hw
          have hHeld := hHeld.trans (hbN.mono hHeld.size)
          have hfN : Fr (fun _ => False) v_273 v_283 := Fr.of_below hbN
          have rl_285 := Lib.hid (rl_276.out.wid (fun k => k = v_1.heap.size ∨ k = v_273.heap.size) (fun b hlt hk => by have hk : b = v_1.heap.size ∨ b = v_273.heap.size := hk; show b = v_1.heap.size; omega))
          clear rl_276
          have rr_286 := Lib.hid (rr.out.wid (fun k => k = v_1.heap.size ∨ k = v_273.heap.size) (fun b hlt hk => by have hk : b = v_1.heap.size ∨ b = v_273.heap.size := hk; show b = v_1.heap.size; omega))
          clear rr
          have bl_287 := Lib.hid (hfN.row_some bl_275.out (fun h => h))
          clear bl_275
          have rl_288 := Lib.hid (rl_285.out.fr hfN (fun h => h) (fun _ h => h.elim))
          clear rl_285
          have rr_289 := Lib.hid (rr_286.out.fr hfN (fun h => h) (fun _ h => h.elim))
          clear rr_286
          have bl_290 := Lib.hid hx
          clear hx
          refine hK.out _ _ hHeld (fun _ => ?_)
          clear hK K hfN
          try simp only [Act.put, List.setIfInBounds_toArray, List.set_cons_zero, List.set_cons_succ]
          refine wpAnyH_ready (rs := [6]) (by kernel_rfl) (by simp) ?_
          refine AllReadyH.cons (o := ⟨none, _, _, _, _, _⟩) rfl (fun K hK => ?_) (AllReadyH.nil)
          have q0 : v_283.cell? ⟨v_273.heap.size, 0, none⟩ = some (.slice none 0 0) := by rw [cell_of_row _ _ _ _ _ _ bl_290.out]; rfl
          have q1 : v_283.frozen? ⟨v_273.heap.size, 0, none⟩ = false := frozen_of_row _ _ _ _ _ bl_290.out
          go_simp
          have hx := heap_setCell_same v_283 (v_273.heap.size) 0 _ _ (.slice (some ⟨gl, 0, none⟩) R R) bl_290.out
          have hfN : Fr (fun k => k = v_273.heap.size) v_283 (v_283.setCell ⟨v_273.heap.size, 0, none⟩ (.slice (some ⟨gl, 0, none⟩) R R)) := Fr.setCell (S := fun k => k = v_273.heap.size) (Fr.refl _ _) (.inr rfl) _
          have hHeld := hHeld.setCell (p := ⟨v_273.heap.size, 0, none⟩) (by show _ ≤ v_273.heap.size; omega) (.slice (some ⟨gl, 0, none⟩) R R)
          have hz_292 : v_283.heap.size ≤ (v_283.setCell ⟨v_273.heap.size, 0, none⟩ (.slice (some ⟨gl, 0, none⟩) R R)).heap.size ∧ (v_283.setCell ⟨v_273.heap.size, 0, none⟩ (.slice (some ⟨gl, 0, none⟩) R R)).heap.size ≤ v_283.heap.size := by simp
          obtain ⟨v_291, hw⟩ : ∃ v_291, v_291 = v_283.setCell ⟨v_273.heap.size, 0, none⟩ (.slice (some ⟨gl, 0, none⟩) R R) := ⟨_, rfl⟩
          rw [← hw] at hHeld hx hfN hz_292 ⊢
          clear hw q0 q1
          have bl_293 := Lib.hid (hfN.row_some bl_287.out (fun h => by have h : v_1.heap.size = v_273.heap.size := h; omega))
          clear bl_287
          have rl_294 := Lib.hid (rl_288.out.fr hfN (fun h => by have h : gl = v_273.heap.size := h; omega) (fun b hb => by have hb : b = v_273.heap.size := hb; show b = v_1.heap.size ∨ b = v_273.heap.size; omega))
          clear rl_288
          have rr_295 := Lib.hid (rr_289.out.fr hfN (fun h => by have h : gr = v_273.heap.size := h; omega) (fun b hb => by have hb : b = v_273.heap.size := hb; show b = v_1.heap.size ∨ b = v_273.heap.size; omega))
          clear rr_289
          clear bl_290
          have bl_297 := Lib.hid hx
          clear hx
          refine hK.out _ _ hHeld (fun _ => ?_)
          clear hK K hfN
          try simp only [Act.put, List.setIfInBounds_toArray, List.set_cons_zero, List.set_cons_succ]
          refine wpAnyH_ready (rs := [7]) (by kernel_rfl) (by simp) ?_
          refine AllReadyH.cons (o := ⟨none, _, _, _, _, _⟩) rfl (fun K hK => ?_) (AllReadyH.nil)
          have q0 : v_291.cell? ⟨v_1.heap.size, 0, none⟩ = some (.slice none 0 0) := by rw [cell_of_row _ _ _ _ _ _ bl_293.out]; rfl
          have q1 : v_291.frozen? ⟨v_1.heap.size, 0, none⟩ = false := frozen_of_row _ _ _ _ _ bl_293.out
          go_simp
          have hx := heap_setCell_same v_291 (v_1.heap.size) 0 _ _ (.slice (some ⟨gr, 0, none⟩) C C) bl_293.out
          have hfN : Fr (fun k => k = v_1.heap.size) v_291 (v_291.setCell ⟨v_1.heap.size, 0, none⟩ (.slice (some ⟨gr, 0, none⟩) C C)) := Fr.setCell (S := fun k => k = v_1.heap.size) (Fr.refl _ _) (.inr rfl) _
          have hHeld := hHeld.setCell (p := ⟨v_1.heap.size, 0, none⟩) (by show _ ≤ v_1.heap.size; omega) (.slice (some ⟨gr, 0, none⟩) C C)
          have hz_299 : v_291.heap.size ≤ (v_291.setCell ⟨v_1.heap.size, 0, none⟩ (.slice (some ⟨gr, 0, none⟩) C C)).heap.size ∧ (v_291.setCell ⟨v_1.heap.size, 0, none⟩ (.slice (some ⟨gr, 0, none⟩) C C)).heap.size ≤ v_291.heap.size := by simp
          obtain ⟨v_298, hw⟩ : ∃ v_298, v_298 = v_291.setCell ⟨v_1.heap.size, 0, none⟩ (.slice (some ⟨gr, 0, none⟩) C C) := ⟨_, rfl⟩
          rw [← hw] at hHeld hx hfN hz_299 ⊢
          clear hw q0 q1
          have rl_301 := Lib.hid (rl_294.out.fr hfN (fun h => by have h : gl = v_1.heap.size := h; omega) (fun b hb => by have hb : b = v_1.heap.size := hb; show b = v_1.heap.size ∨ b = v_273.heap.size; omega))
          clear rl_294
          have rr_302 := Lib.hid (rr_295.out.fr hfN (fun h => by have h : gr = v_1.heap.size := h; omega) (fun b hb => by have hb : b = v_1.heap.size := hb; show b = v_1.heap.size ∨ b = v_273.heap.size; omega))
          clear rr_295
          have bl_303 := Lib.hid (hfN.row_some bl_297.out (fun h => by have h : v_273.heap.size = v_1.heap.size := h; omega))
          clear bl_297
          clear bl_293
          have bl_304 := Lib.hid hx
          clear hx
          refine hK.out _ _ hHeld (fun _ => ?_)
          clear hK K hfN
          try simp only [Act.put, List.setIfInBounds_toArray, List.set_cons_zero, List.set_cons_succ]
          refine wpAnyH_done (by kernel_rfl) ?_ _
          go_wp2_with fail
          go_meet
          case rel => exact ⟨v_273.heap.size, v_1.heap.size, gl, gr, rfl, rfl, hHeld, ⟨by omega, by omega⟩, bl_303.out, bl_304.out, rl_301.out.wid (fun _ => False) (fun _ _ h => h.elim), rr_302.out.wid (fun _ => False) (fun _ _ h => h.elim)⟩
        · go_simp
          have hbN : Below v_266.heap.size v_266 (v_266.alloc (.cells #[.slice none 0 0] 57)) := (Below.refl _ _).alloc (Nat.le_refl _) _
          have hx := heap_alloc_new v_266 (.cells #[.slice none 0 0] 57)
          have hz_278 : v_266.heap.size + 1 ≤ (v_266.alloc (.cells #[.slice none 0 0] 57)).heap.size ∧ (v_266.alloc (.cells #[.slice none 0 0] 57)).heap.size ≤ v_266.heap.size + 1 := by simp
          obtain ⟨v_277, hw⟩ : ∃ v_277, v_277 = v_266.alloc (.cells #[.slice none 0 0] 57) := ⟨_, rfl⟩
          rw [← hw] at hbN hx hz_278 ⊢
          clear hw
          have hHeld := hHeld.trans (hbN.mono hHeld.size)
          have hfN : Fr (fun _ => False) v_266 v_277 := Fr.of_below hbN
          have rl_279 := Lib.hid (rl.out.wid (fun k => k = v_1.heap.size ∨ k = v_266.heap.size) (fun b hlt hk => by have hk : b = v_1.heap.size ∨ b = v_266.heap.size := hk; show b = v_1.heap.size; omega))
          clear rl
          have bl_280 := Lib.hid (hfN.row_some bl_268.out (fun h => h))
          clear bl_268
          have rl_281 := Lib.hid (rl_279.out.fr hfN (fun h => h) (fun _ h => h.elim))
          clear rl_279
          have bl_282 := Lib.hid hx
          clear hx
          refine hK.out _ _ hHeld (fun _ => ?_)
          clear hK K hfN
          try simp only [Act.put, List.setIfInBounds_toArray, List.set_cons_zero, List.set_cons_succ]
          refine wpAnyH_ready (rs := [3]) (by kernel_rfl) (by simp) ?_
          refine AllReadyH.cons (o := ⟨some 33, _, _, _, _, _⟩) rfl (fun K hK => ?_) (AllReadyH.nil)
          go_simp
          have hh := columnsOf_any D C Ab Nb cb lb hD1 hD2 hC1 hC2 HNb.out v_277 (HSb.out.below hHeld (Nat.le_refl _))
          refine hh.mono ?_; clear hh; rintro e v_305 ⟨gr, rfl, hgr, hbN, hrow⟩
          have rr := Lib.hid (hrow (fun k => k = v_1.heap.size ∨ k = v_266.heap.size) (fun b hlt _ hk => by have hk : b = v_1.heap.size ∨ b = v_266.heap.size := hk; omega))
          clear hrow
          have hgr2 := rr.out.lt
          go_wp2_with fail
          have hHeld := hHeld.trans (hbN.mono hHeld.size)
          have hfN : Fr (fun _ => False) v_277 v_305 := Fr.of_below hbN
          have hz_306 := hbN.size
          have bl_307 := Lib.hid (hfN.row_some bl_280.out (fun h => h))
          clear bl_280
          have rl_308 := Lib.hid (rl_281.out.fr hfN (fun h => h) (fun _ h => h.elim))
          clear rl_281
          have bl_309 := Lib.hid (hfN.row_some bl_282.out (fun h => h))
          clear bl_282
          clear hbN
          refine hK.out _ _ hHeld (fun _ => ?_)
          clear hK K hfN
          try simp only [Act.put, List.setIfInBounds_toArray, List.set_cons_zero, List.set_cons_succ]
          refine wpAnyH_ready (rs := [6]) (by kernel_rfl) (by simp) ?_
          refine AllReadyH.cons (o := ⟨none, _, _, _, _, _⟩) rfl (fun K hK => ?_) (AllReadyH.nil)
          have q0 : v_305.cell? ⟨v_266.heap.size, 0, none⟩ = some (.slice none 0 0) := by rw [cell_of_row _ _ _ _ _ _ bl_309.out]; rfl
          have q1 : v_305.frozen? ⟨v_266.heap.size, 0, none⟩ = false := frozen_of_row _ _ _ _ _ bl_309.out
          go_simp
          have hx := heap_setCell_same v_305 (v_266.heap.size) 0 _ _ (.slice (some ⟨gl, 0, none⟩) R R) bl_309.out
          have hfN : Fr (fun k => k = v_266.heap.size) v_305 (v_305.setCell ⟨v_266.heap.size, 0, none⟩ (.slice (some ⟨gl, 0, none⟩) R R)) := Fr.setCell (S := fun k => k = v_266.heap.size) (Fr.refl _ _) (.inr rfl) _
          have hHeld := hHeld.setCell (p := ⟨v_266.heap.size, 0, none⟩) (by show _ ≤ v_266.heap.size; omega) (.slice (some ⟨gl, 0, none⟩) R R)
          have hz_311 : v_305.heap.size ≤ (v_305.setCell ⟨v_266.heap.size, 0, none⟩ (.slice (some ⟨gl, 0, none⟩) R R)).heap.size ∧ (v_305.setCell ⟨v_266.heap.size, 0, none⟩ (.slice (some ⟨gl, 0, none⟩) R R)).heap.size ≤ v_305.heap.size := by simp
          obtain ⟨v_310, hw⟩ : ∃ v_310, v_310 = v_305.setCell ⟨v_266.heap.size, 0, none⟩ (.slice (some ⟨gl, 0, none⟩) R R) := ⟨_, rfl⟩
          rw [← hw] at hHeld hx hfN hz_311 ⊢
          clear hw q0 q1
          have bl_312 := Lib.hid (hfN.row_some bl_307.out (fun h => by have h : v_1.heap.size = v_266.heap.size := h; omega))
          clear bl_307
          have rl_313 := Lib.hid (rl_308.out.fr hfN (fun h => by have h : gl = v_266.heap.size := h; omega) (fun b hb => by have hb : b = v_266.heap.size := hb; show b = v_1.heap.size ∨ b = v_266.heap.size; omega))
          clear rl_308
          have rr_315 := Lib.hid (rr.out.fr hfN (fun h => by have h : gr = v_266.heap.size := h; omega) (fun b hb => by have hb : b = v_266.heap.size := hb; show b = v_1.heap.size ∨ b = v_266.heap.size; omega))
          clear rr
          clear bl_309
          have bl_316 := Lib.hid hx
          clear hx
          refine hK.out _ _ hHeld (fun _ => ?_)
          clear hK K hfN
          try simp only [Act.put, List.setIfInBounds_toArray, List.set_cons_zero, List.set_cons_succ]
          refine wpAnyH_ready (rs := [7]) (by kernel_rfl) (by simp) ?_
          refine AllReadyH.cons (o := ⟨none, _, _, _, _, _⟩) rfl (fun K hK => ?_) (AllReadyH.nil)
          have q0 : v_310.cell? ⟨v_1.heap.size, 0, none⟩ = some (.slice none 0 0) := by rw [cell_of_row _ _ _ _ _ _ bl_312.out]; rfl
          have q1 : v_310.frozen? ⟨v_1.heap.size, 0, none⟩ = false := frozen_of_row _ _ _ _ _ bl_312.out
          go_simp
          have hx := heap_setCell_same v_310 (v_1.heap.size) 0 _ _ (.slice (some ⟨gr, 0, none⟩) C C) bl_312.out
          have hfN : Fr (fun k => k = v_1.heap.size) v_310 (v_310.setCell ⟨v_1.heap.size, 0, none⟩ (.slice (some ⟨gr, 0, none⟩) C C)) := Fr.setCell (S := fun k => k = v_1.heap.size) (Fr.refl _ _) (.inr rfl) _
          have hHeld := hHeld.setCell (p := ⟨v_1.heap.size, 0, none⟩) (by show _ ≤ v_1.heap.size; omega) (.slice (some ⟨gr, 0, none⟩) C C)
          have hz_318 : v_310.heap.size ≤ (v_310.setCell ⟨v_1.heap.size, 0, none⟩ (.slice (some ⟨gr, 0, none⟩) C C)).heap.size ∧ (v_310.setCell ⟨v_1.heap.size, 0, none⟩ (.slice (some ⟨gr, 0, none⟩) C C)).heap.size ≤ v_310.heap.size := by simp
          obtain ⟨v_317, hw⟩ : ∃ v_317, v_317 = v_310.setCell ⟨v_1.heap.size, 0, none⟩ (.slice (some ⟨gr, 0, none⟩) C C) := ⟨_, rfl⟩
          rw [← hw] at hHeld hx hfN hz_318 ⊢
          clear hw q0 q1
          have rl_320 := Lib.hid (rl_313.out.fr hfN (fun h => by have h : gl = v_1.heap.size := h; omega) (fun b hb => by have hb : b = v_1.heap.size := hb; show b = v_1.heap.size ∨ b = v_266.heap.size; omega))
          clear rl_313
          have rr_321 := Lib.hid (rr_315.out.fr hfN (fun h => by have h : gr = v_1.heap.size := h; omega) (fun b hb => by have hb : b = v_1.heap.size := hb; show b = v_1.heap.size ∨ b = v_266.heap.size; omega))
          clear rr_315
          have bl_322 := Lib.hid (hfN.row_some bl_316.out (fun h => by have h : v_266.heap.size = v_1.heap.size := h; omega))
          clear bl_316
          clear bl_312
          have bl_323 := Lib.hid hx
          clear hx
          refine hK.out _ _ hHeld (fun _ => ?_)
          clear hK K hfN
          try simp only [Act.put, List.setIfInBounds_toArray, List.set_cons_zero, List.set_cons_succ]
          refine wpAnyH_done (by kernel_rfl) ?_ _
          go_wp2_with fail
          go_meet
          case rel => exact ⟨v_266.heap.size, v_1.heap.size, gl, gr, rfl, rfl, hHeld, ⟨by omega, by omega⟩, bl_322.out, bl_323.out, rl_320.out.wid (fun _ => False) (fun _ _ h => h.elim), rr_321.out.wid (fun _ => False) (fun _ _ h => h.elim)⟩
      · go_simp
        have hbN : Below v_9.heap.size v_9 (v_9.alloc (.cells #[.slice none 0 0] 57)) := (Below.refl _ _).alloc (Nat.le_refl _) _
        have hx := heap_alloc_new v_9 (.cells #[.slice none 0 0] 57)
        have hz_270 : v_9.heap.size + 1 ≤ (v_9.alloc (.cells #[.slice none 0 0] 57)).heap.size ∧ (v_9.alloc (.cells #[.slice none 0 0] 57)).heap.size ≤ v_9.heap.size + 1 := by simp
        obtain ⟨v_269, hw⟩ : ∃ v_269, v_269 = v_9.alloc (.cells #[.slice none 0 0] 57) := ⟨_, rfl⟩
        rw [← hw] at hbN hx hz_270 ⊢
        clear hw
        have hHeld := hHeld.trans (hbN.mono hHeld.size)
        have hfN : Fr (fun _ => False) v_9 v_269 := Fr.of_below hbN
        have bl_271 := Lib.hid (hfN.row_some bl_11.out (fun h => h))
        clear bl_11
        have bl_272 := Lib.hid hx
        clear hx
        refine hK.out _ _ hHeld (fun _ => ?_)
        clear hK K hfN
        try simp only [Act.put, List.setIfInBounds_toArray, List.set_cons_zero, List.set_cons_succ]
        refine wpAnyH_ready (rs := [1]) (by kernel_rfl) (by simp) ?_
        refine AllReadyH.cons (o := ⟨some 31, _, _, _, _, _⟩) rfl (fun K hK => ?_) (AllReadyH.nil)
        go_simp
        have hh := rowsOf_any R D Aa Na ca la hR1 hR2 hD1 hD2 HNa.out v_269 (HSa.out.below hHeld (Nat.le_refl _))
        refine hh.mono ?_; clear hh; rintro e v_324 ⟨gl, rfl, hgl, hbN, hrow⟩
        have rl := Lib.hid ((hrow (fun k => k = v_1.heap.size ∨ k = v_9.heap.size) (fun b o hn hA hk => by have hk : b = v_1.heap.size ∨ b = v_9.heap.size := hk; have := HSa.out.lt (by decide) hn hA; omega)).at_)
        clear hrow
        have hgl2 := rl.out.lt
        go_wp2_with fail
        have hHeld := hHeld.trans (hbN.mono hHeld.size)
        have hfN : Fr (fun _ => False) v_269 v_324 := Fr.of_below hbN
        have hz_325 := hbN.size
        have bl_326 := Lib.hid (hfN.row_some bl_271.out (fun h => h))
        clear bl_271
        have bl_327 := Lib.hid (hfN.row_some bl_272.out (fun h => h))
        clear bl_272
        clear hbN
        refine hK.out _ _ hHeld (fun _ => ?_)
        clear hK K hfN
        try simp only [Act.put, List.setIfInBounds_toArray, List.set_cons_zero, List.set_cons_succ]
        refine wpAnyH_ready (rs := [3]) (by kernel_rfl) (by simp) ?_
        refine AllReadyH.cons (o := ⟨some 33, _, _, _, _, _⟩) rfl (fun K hK => ?_) (AllReadyH.nil)
        go_simp
        have hh := columnsOf_any D C Ab Nb cb lb hD1 hD2 hC1 hC2 HNb.out v_324 (HSb.out.below hHeld (Nat.le_refl _))
        refine hh.mono ?_; clear hh; rintro e v_328 ⟨gr, rfl, hgr, hbN, hrow⟩
        have rr := Lib.hid (hrow (fun k => k = v_1.heap.size ∨ k = v_9.heap.size) (fun b hlt _ hk => by have hk : b = v_1.heap.size ∨ b = v_9.heap.size := hk; omega))
        clear hrow
        have hgr2 := rr.out.lt
        go_wp2_with fail
        have hHeld := hHeld.trans (hbN.mono hHeld.size)
        have hfN : Fr (fun _ => False) v_324 v_328 := Fr.of_below hbN
        have hz_329 := hbN.size
        have bl_330 := Lib.hid (hfN.row_some bl_326.out (fun h => h))
        clear bl_326
        have bl_331 := Lib.hid (hfN.row_some bl_327.out (fun h => h))
        clear bl_327
        have rl_332 := Lib.hid (rl.out.fr hfN (fun h => h) (fun _ h => h.elim))
        clear rl
        clear hbN
        refine hK.out _ _ hHeld (fun _ => ?_)
        clear hK K hfN
        try simp only [Act.put, List.setIfInBounds_toArray, List.set_cons_zero, List.set_cons_succ]
        refine wpAnyH_ready (rs := [6]) (by kernel_rfl) (by simp) ?_
        refine AllReadyH.cons (o := ⟨none, _, _, _, _, _⟩) rfl (fun K hK => ?_) (AllReadyH.nil)
        have q0 : v_328.cell? ⟨v_9.heap.size, 0, none⟩ = some (.slice none 0 0) := by rw [cell_of_row _ _ _ _ _ _ bl_331.out]; rfl
        have q1 : v_328.frozen? ⟨v_9.heap.size, 0, none⟩ = false := frozen_of_row _ _ _ _ _ bl_331.out
        go_simp
        have hx := heap_setCell_same v_328 (v_9.heap.size) 0 _ _ (.slice (some ⟨gl, 0, none⟩) R R) bl_331.out
        have hfN : Fr (fun k => k = v_9.heap.size) v_328 (v_328.setCell ⟨v_9.heap.size, 0, none⟩ (.slice (some ⟨gl, 0, none⟩) R R)) := Fr.setCell (S := fun k => k = v_9.heap.size) (Fr.refl _ _) (.inr rfl) _
        have hHeld := hHeld.setCell (p := ⟨v_9.heap.size, 0, none⟩) (by show _ ≤ v_9.heap.size; omega) (.slice (some ⟨gl, 0, none⟩) R R)
        have hz_334 : v_328.heap.size ≤ (v_328.setCell ⟨v_9.heap.size, 0, none⟩ (.slice (some ⟨gl, 0, none⟩) R R)).heap.size ∧ (v_328.setCell ⟨v_9.heap.size, 0, none⟩ (.slice (some ⟨gl, 0, none⟩) R R)).heap.size ≤ v_328.heap.size := by simp
        obtain ⟨v_333, hw⟩ : ∃ v_333, v_333 = v_328.setCell ⟨v_9.heap.size, 0, none⟩ (.slice (some ⟨gl, 0, none⟩) R R) := ⟨_, rfl⟩
        rw [← hw] at hHeld hx hfN hz_334 ⊢
        clear hw q0 q1
        have bl_335 := Lib.hid (hfN.row_some bl_330.out (fun h => by have h : v_1.heap.size = v_9.heap.size := h; omega))
        clear bl_330
        have rl_337 := Lib.hid (rl_332.out.fr hfN (fun h => by have h : gl = v_9.heap.size := h; omega) (fun b hb => by have hb : b = v_9.heap.size := hb; show b = v_1.heap.size ∨ b = v_9.heap.size; omega))
        clear rl_332
        have rr_338 := Lib.hid (rr.out.fr hfN (fun h => by have h : gr = v_9.heap.size := h; omega) (fun b hb => by have hb : b = v_9.heap.size := hb; show b = v_1.heap.size ∨ b = v_9.heap.size; omega))
        clear rr
        clear bl_331
        have bl_339 := Lib.hid hx
        clear hx
        refine hK.out _ _ hHeld (fun _ => ?_)
        clear hK K hfN
        try simp only [Act.put, List.setIfInBounds_toArray, List.set_cons_zero, List.set_cons_succ]
        refine wpAnyH_ready (rs := [7]) (by kernel_rfl) (by simp) ?_
        refine AllReadyH.cons (o := ⟨none, _, _, _, _, _⟩) rfl (fun K hK => ?_) (AllReadyH.nil)
        have q0 : v_333.cell? ⟨v_1.heap.size, 0, none⟩ = some (.slice none 0 0) := by rw [cell_of_row _ _ _ _ _ _ bl_335.out]; rfl
        have q1 : v_333.frozen? ⟨v_1.heap.size, 0, none⟩ = false := frozen_of_row _ _ _ _ _ bl_335.out
        go_simp
        have hx := heap_setCell_same v_333 (v_1.heap.size) 0 _ _ (.slice (some ⟨gr, 0, none⟩) C C) bl_335.out
        have hfN : Fr (fun k => k = v_1.heap.size) v_333 (v_333.setCell ⟨v_1.heap.size, 0, none⟩ (.slice (some ⟨gr, 0, none⟩) C C)) := Fr.setCell (S := fun k => k = v_1.heap.size) (Fr.refl _ _) (.inr rfl) _
        have hHeld := hHeld.setCell (p := ⟨v_1.heap.size, 0, none⟩) (by show _ ≤ v_1.heap.size; omega) (.slice (some ⟨gr, 0, none⟩) C C)
        have hz_341 : v_333.heap.size ≤ (v_333.setCell ⟨v_1.heap.size, 0, none⟩ (.slice (some ⟨gr, 0, none⟩) C C)).heap.size ∧ (v_333.setCell ⟨v_1.heap.size, 0, none⟩ (.slice (some ⟨gr, 0, none⟩) C C)).heap.size ≤ v_333.heap.size := by simp
        obtain ⟨v_340, hw⟩ : ∃ v_340, v_340 = v_333.setCell ⟨v_1.heap.size, 0, none⟩ (.slice (some ⟨gr, 0, none⟩) C C) := ⟨_, rfl⟩
        rw [← hw] at hHeld hx hfN hz_341 ⊢
        clear hw q0 q1
        have rl_343 := Lib.hid (rl_337.out.fr hfN (fun h => by have h : gl = v_1.heap.size := h; omega) (fun b hb => by have hb : b = v_1.heap.size := hb; show b = v_1.heap.size ∨ b = v_9.heap.size; omega))
        clear rl_337
        have rr_344 := Lib.hid (rr_338.out.fr hfN (fun h => by have h : gr = v_1.heap.size := h; omega) (fun b hb => by have hb : b = v_1.heap.size := hb; show b = v_1.heap.size ∨ b = v_9.heap.size; omega))
        clear rr_338
        have bl_345 := Lib.hid (hfN.row_some bl_339.out (fun h => by have h : v_9.heap.size = v_1.heap.size := h; omega))
        clear bl_339
        clear bl_335
        have bl_346 := Lib.hid hx
        clear hx
        refine hK.out _ _ hHeld (fun _ => ?_)
        clear hK K hfN
        try simp only [Act.put, List.setIfInBounds_toArray, List.set_cons_zero, List.set_cons_succ]
        refine wpAnyH_done (by kernel_rfl) ?_ _
        go_wp2_with fail
        go_meet
        case rel => exact ⟨v_9.heap.size, v_1.heap.size, gl, gr, rfl, rfl, hHeld, ⟨by omega, by omega⟩, bl_345.out, bl_346.out, rl_343.out.wid (fun _ => False) (fun _ _ h => h.elim), rr_344.out.wid (fun _ => False) (fun _ _ h => h.elim)⟩
  case rest =>
    obtain ⟨g8, g9, gl, gr, rfl, rfl, hb5, ⟨hg8, hg9⟩, x8, x9, rl, rr⟩ := hcut
    have I5 := Lib.hid (I4.out.later hb5)
    clear a0 a1 a2 b0 b1 b2
    have a0 := boxM_0 I5.out.b1
    have b1 := boxM_1 I5.out.b2
    have hht : Tells 40 #[.pointer (some ⟨w.heap.size, 0, none⟩), .pointer (some ⟨g8, 0, none⟩), .pointer (some ⟨g9, 0, none⟩)] R C (mm D (mx D la) (mx C lb)) wc := fun W i j hi hj hb => by
      have hh := mulc_any F T w.heap.size g8 g9 gl gr R D C _ _ (mx D la) (fun j i => mx C lb i j) hR2 hC2 i j hi hj W (I5.out.fld.later hb) (rl.later hb) (rr.later hb)
        ((hb.cell (World.block_lt_of_cell? wc _ (cell_of_one I5.out.b0))).trans (cell_of_one I5.out.b0)) ((hb.cell (World.block_lt_of_cell? wc _ (cell_of_one x8))).trans (cell_of_one x8)) ((hb.cell (World.block_lt_of_cell? wc _ (cell_of_one x9))).trans (cell_of_one x9))
      exact hh.mono fun e w' ⟨he, k, hk⟩ => ⟨he, hk ▸ below_drewN (Below.refl _ _) k⟩
    have hhB := build_any R C hR2 hC2 _ enters_mul1 _ _ _ hht
    clear hht
    have Hrl := Lib.hid rl; clear rl
    have Hrr := Lib.hid rr; clear rr
    go_wp2_with fail
    refine hhB.mono ?_; clear hhB; rintro e w6 ⟨v, rfl, ⟨A6, c6, rfl, hg6⟩, hb6⟩
    have I6 := Lib.hid (I5.out.later hb6)
    have HG6 := Lib.hid hg6; clear hg6
    have x0 := box0_0 I6.out.b3; have x1 := box0_1 I6.out.b3; have x2 := box0_2 I6.out.b3
    have y0 := box0_free I6.out.b3 0; have y1 := box0_free I6.out.b3 1; have y2 := box0_free I6.out.b3 2
    have hs5 := I5.out.size
    go_wp2_with fail
    refine bodyPost_ret (results_cell_pair Try.results20 _ _ (w.heap.size + 3) 24 _ (0, 0) _ rfl (box0_set I6.out.b3) Try.underlying24 rfl size_matrix) rfl ?_
    have hq := box0_fr w6 (w.heap.size + 3) (R : Int) (C : Int) A6 (R * C) c6
    exact ⟨⟨A6, c6, rfl, (HG6.out.frG hq (by omega)).lower (by omega)⟩, I6.out.fld.fr hq (by show ¬ F = _; omega) (by show ¬ T = _; omega), I6.out.fr.andNew hq (fun i hi hk => by have hk : i = _ := hk; omega)⟩
end Go.Proofs.Ytccnoflgbopjlaa
