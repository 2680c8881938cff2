/-
  Contract of package matrix's Invert. Condition: the field is one that New made. (Written by gen_mdn.py.)
-/
import Derived.Test.YtccnoflgbopjlaaMdo
namespace Go.Proofs.Ytccnoflgbopjlaa
open Go.RowKit Go.Proofs
set_option linter.unusedVariables false

theorem RowsF.mono {w : World} {g n W : Nat} {S S' : Nat → Prop} {M : Mx} (h : RowsF w g n W S M) (hS : ∀ b, S' b → S b) : RowsF w g n W S' M := by
  obtain ⟨cur, hg, hn, hr⟩ := h.row
  refine ⟨cur, hg, hn, fun i hi => ?_⟩
  obtain ⟨A, h1, h2, h3⟩ := hr i hi
  exact ⟨A, h1, h2, fun b o hW hA hb => h3 b o hW hA (hS b hb)⟩
/-- The world of Invert behind its boxes. -/
def invW (w : World) (r c : Int) (A : Option Addr) (n cp : Nat) : World :=
  (w.alloc (.cells #[.int .i64 r, .int .i64 c, .slice A n cp] 24)).alloc (.cells #[.int .i64 0, .int .i64 0, .slice none 0 0] 24)
theorem invW_below (w : World) (r c : Int) (A : Option Addr) (n cp : Nat) : Below w.heap.size w (invW w r c A n cp) := ((Below.refl _ _).alloc (Nat.le_refl _) _).alloc (by simp) _
/-- A world of Invert's in which the field is made and the boxes lie. -/
structure InvAt (w0 w : World) (F T : Nat) (r c : Int) (A : Option Addr) (n cp : Nat) : Prop where
  fr : Fr (Ft T) w0 w
  fld : Fld1 w F T
  size : w0.heap.size + 2 ≤ w.heap.size
  b0 : w.heap[w0.heap.size]? = some (boxM r c A n cp)
  b1 : w.heap[w0.heap.size + 1]? = some box0
theorem InvAt.later {w0 w w' : World} {F T : Nat} {r c : Int} {A : Option Addr} {n cp : Nat} (h : InvAt w0 w F T r c A n cp) (hb : Below w.heap.size w w') : InvAt w0 w' F T r c A n cp :=
  ⟨h.fr.trans (Fr.of_below hb), h.fld.later hb, Nat.le_trans h.size hb.size, (hb.block _ (block_lt h.b0)).trans h.b0, (hb.block _ (block_lt h.b1)).trans h.b1⟩
theorem InvAt.start {w w1 : World} {F T : Nat} {r c : Int} {A : Option Addr} {n cp : Nat} (hT : T < w.heap.size) (hf : Fld1 w1 F T) (hr : Fr (Ft T) (invW w r c A n cp) w1) : InvAt w w1 F T r c A n cp :=
  ⟨(Fr.of_below (invW_below w r c A n cp)).trans hr, hf, by have := hr.size; simp [invW] at this; omega, hr.row_some (alloc2_old w _ _) (by show ¬ _ = T; omega), hr.row_some (alloc2_new w _ _) (by show ¬ _ = T; omega)⟩

theorem InvAt.frNew {w0 w w' : World} {F T : Nat} {r c : Int} {A : Option Addr} {n cp : Nat} {S : Nat → Prop} (h : InvAt w0 w F T r c A n cp) (hT : T < w0.heap.size) (hF : F < w0.heap.size) (hf : Fr S w w') (hS : ∀ b, b < w0.heap.size + 2 → ¬ S b) : InvAt w0 w' F T r c A n cp :=
  ⟨h.fr.andNew hf (fun i hi hk => absurd hk (hS i (by omega))), h.fld.fr hf (hS F (by omega)) (hS T (by omega)), Nat.le_trans h.size hf.size, hf.row_some h.b0 (hS _ (by omega)), hf.row_some h.b1 (hS _ (by omega))⟩

set_option maxRecDepth 20000 in
set_option maxHeartbeats 1600000 in
theorem invert_no (F T : Nat) (r c : Int) (A : Option Addr) (n cp : Nat) (hn : n ≤ maxLen) (w : World) (h : Fld w F T) (hno : ¬ (rightB r c n = true ∧ r = c)) :
    Calls Try.prog 23 #[.pointer (some ⟨F, 0, none⟩), .agg #[.int .i64 r, .int .i64 c, .slice A n cp]] w (OnFld F T w (NoMx 2)) := by
  have hT := h.ltT
  have hF := h.ltF
  have hhM := mmade_any F T (invW w r c A n cp) (h.later (invW_below w r c A n cp))
  have Hno := Lib.hid hno; clear hno
  by_cases h1 : rightB r c n = true
  · have h3 : ¬ r = c := fun e => Hno.out ⟨h1, e⟩
    have hd : (r != c) = true := by simpa using h3
    have H1 := Lib.hid h1; clear h1
    go_enter Try.func23, Try.ntmps23
    go_wp2_with fail
    refine hhM.mono ?_; clear hhM; rintro e w1 ⟨rfl, hf1, r1⟩
    have I1 := Lib.hid (InvAt.start hT hf1 r1); clear hf1 r1
    have a0 := boxM_0 I1.out.b0; have a1 := boxM_1 I1.out.b0; have a2 := boxM_2 I1.out.b0
    go_wp2_with fail
    refine (right_any r c A n cp hn _).mono ?_; rintro e w2 ⟨rfl, hb2⟩
    rw [H1.out]
    have I3 := Lib.hid (I1.out.later hb2); clear hb2 a0 a1 a2
    have a0 := boxM_0 I3.out.b0; have a1 := boxM_1 I3.out.b0
    have x0 := box0_0 I3.out.b1; have x1 := box0_1 I3.out.b1; have x2 := box0_2 I3.out.b1
    have y0 := box0_free I3.out.b1 0; have y1 := box0_free I3.out.b1 1; have y2 := box0_free I3.out.b1 2
    clear h
    go_wp2_with fail
    refine bodyPost_ret (results_cell_pair Try.results23 _ _ (w.heap.size + 1) 24 _ (0, 0) _ rfl (box0_set I3.out.b1) Try.underlying24 rfl size_matrix) rfl ?_
    have hq := box0_fr w2 (w.heap.size + 1) 0 0 none 0 0
    exact ⟨rfl, I3.out.fld.fr hq (by show ¬ F = _; omega) (by show ¬ T = _; omega), I3.out.fr.andNew hq (fun i hi hk => by have hk : i = _ := hk; omega)⟩
  · have h1f : rightB r c n = false := by simpa using h1
    have H1 := Lib.hid h1f; clear h1 h1f
    go_enter Try.func23, Try.ntmps23
    go_wp2_with fail
    refine hhM.mono ?_; clear hhM; rintro e w1 ⟨rfl, hf1, r1⟩
    have I1 := Lib.hid (InvAt.start hT hf1 r1); clear hf1 r1
    have a0 := boxM_0 I1.out.b0; have a1 := boxM_1 I1.out.b0; have a2 := boxM_2 I1.out.b0
    go_wp2_with fail
    refine (right_any r c A n cp hn _).mono ?_; rintro e w2 ⟨rfl, hb2⟩
    rw [H1.out]
    have I3 := Lib.hid (I1.out.later hb2); clear hb2 a0 a1 a2
    have x0 := box0_0 I3.out.b1; have x1 := box0_1 I3.out.b1; have x2 := box0_2 I3.out.b1
    have y0 := box0_free I3.out.b1 0; have y1 := box0_free I3.out.b1 1; have y2 := box0_free I3.out.b1 2
    clear h
    go_wp2_with fail
    refine bodyPost_ret (results_cell_pair Try.results23 _ _ (w.heap.size + 1) 24 _ (0, 0) _ rfl (box0_set I3.out.b1) Try.underlying24 rfl size_matrix) rfl ?_
    have hq := box0_fr w2 (w.heap.size + 1) 0 0 none 0 0
    exact ⟨rfl, I3.out.fld.fr hq (by show ¬ F = _; omega) (by show ¬ T = _; omega), I3.out.fr.andNew hq (fun i hi hk => by have hk : i = _ := hk; omega)⟩

set_option maxRecDepth 20000 in
set_option maxHeartbeats 6400000 in
theorem invert_yes (F T n : Nat) (A : Option Addr) (N cp : Nat) (l : List UInt8) (h1 : 1 ≤ n) (h2 : n ≤ 255) (hN : N = n * n) (w : World) (h : Fld w F T) (hm : MxAt w T A N cp l) :
    Calls Try.prog 23 #[.pointer (some ⟨F, 0, none⟩), .agg #[.int .i64 (n : Int), .int .i64 (n : Int), .slice A N cp]] w
      fun e w' => ((∃ L, L < n ∧ Rk n n (mx n l) L ∧ e = .returned (NoMx 40)) ∨ (∃ X : Mx, Alike n n (mm n X (mx n l)) one ∧ RetOk n n (tabL n n X) w e w')) ∧ Fld1 w' F T ∧ Fr (Ft T) w w' := by
  have hT := h.ltT
  have hF := h.ltF
  have hhM := mmade_any F T (invW w (n : Int) (n : Int) A N cp) (h.later (invW_below w _ _ A N cp))
  have hla := hm.sl.lim
  have H1 := Lib.hid (show rightB (n : Int) (n : Int) N = true from decide_eq_true ⟨by omega, by omega, by omega, by omega, by rw [hN]; simp⟩)
  have HN := Lib.hid hN; clear hN
  have Hm := Lib.hid hm; clear hm
  go_enter Try.func23, Try.ntmps23
  go_wp2_with fail
  refine hhM.mono ?_; clear hhM; rintro e w1 ⟨rfl, hf1, r1⟩
  have I1 := Lib.hid (InvAt.start hT hf1 r1); clear hf1 r1
  have a0 := boxM_0 I1.out.b0; have a1 := boxM_1 I1.out.b0; have a2 := boxM_2 I1.out.b0
  go_wp2_with fail
  refine (right_any (n : Int) (n : Int) A N cp hla _).mono ?_; rintro e w2 ⟨rfl, hb2⟩
  rw [H1.out]
  have I2 := Lib.hid (I1.out.later hb2); clear hb2 a0 a1 a2
  have a0 := boxM_0 I2.out.b0; have a1 := boxM_1 I2.out.b0; have a2 := boxM_2 I2.out.b0
  have hs2 := I2.out.size
  clear h
  go_upto_region 6 with (fail)
  have hb4 : Below w2.heap.size w2 (w2.alloc (.cells #[.int .i64 (n : Int)] 3)) := (Below.refl _ _).alloc (Nat.le_refl _) _
  have hn0 := heap_alloc_new w2 (.cells #[.int .i64 (n : Int)] 3)
  have I4 := Lib.hid (I2.out.later hb4)
  have hs4 : w2.heap.size + 1 ≤ (w2.alloc (.cells #[.int .i64 (n : Int)] 3)).heap.size := by simp
  have HSa := Lib.hid (Hm.out.fr I4.out.fr).sl
  obtain ⟨w4, hw4⟩ : ∃ w4, w4 = w2.alloc (.cells #[.int .i64 (n : Int)] 3) := ⟨_, rfl⟩
  rw [← hw4] at hn0 I4 hs4 HSa ⊢
  clear hw4 a0 a1 a2 hb4
  have a0 := boxM_0 I4.out.b0; have a1 := boxM_1 I4.out.b0; have a2 := boxM_2 I4.out.b0
  have n0 := cell_of_one hn0
  go_cut [7, 8] (fun v7 v8 wx => ∃ g7 ga gb : Nat, v7 = .pointer (some ⟨g7, 0, none⟩) ∧ v8 = .slice (some ⟨gb, 0, none⟩) n n ∧ Below w4.heap.size w4 wx ∧ (w4.heap.size ≤ g7 ∧ w4.heap.size ≤ ga ∧ w4.heap.size ≤ gb ∧ g7 ≠ ga ∧ gb ≠ ga) ∧
      wx.heap[g7]? = some (.cells #[.slice (some ⟨ga, 0, none⟩) n n] 57 (0, 0)) ∧ (∀ S, (∀ b o, 0 < N → A = some ⟨b, o, none⟩ → ¬ S b) → RowsF wx ga n n S (mx n l)) ∧ RowsAt wx gb n n (fun b => b < w4.heap.size ∨ b = ga) one)
  case first =>
    refine wp_region_held_drew (S := fun w' => Below w4.heap.size w4 w') (by kernel_rfl) (Below.drew (Below.refl _ _)) (fun hHeld => ?_)
    clear hHeld
    have hHeld : Below w4.heap.size w4 w4.drew := Below.drew (Below.refl _ _)
    have hz_0 : w4.heap.size ≤ w4.drew.heap.size ∧ w4.drew.heap.size ≤ w4.heap.size := ⟨Nat.le_refl _, Nat.le_refl _⟩
    obtain ⟨v_1, hw⟩ : ∃ v_1, v_1 = w4.drew := ⟨_, rfl⟩
    rw [← hw] at hHeld hz_0 ⊢
    clear hw
    refine wpAnyH_take (i := 0) (oi := ⟨some 27, _, _, _, _, _⟩) (v := ?vg0_2) rfl (by kernel_rfl) (by kernel_rfl) (by kernel_rfl) (fun _ _ _ h => h) (Or.inl ⟨by rfl, ?yg0_2⟩) hHeld ?rg0_2
    case yg0_2 =>
      intro wq hSw
      (try dsimp only at hSw)
      have q0 := (hSw.cell (World.block_lt_of_cell? w4 _ a0)).trans a0
      have q1 := (hSw.cell (World.block_lt_of_cell? w4 _ a1)).trans a1
      have q2 := (hSw.cell (World.block_lt_of_cell? w4 _ a2)).trans a2
      first | (go_simp; done) | (go_simp; with_reducible rfl)
    try simp only [Act.put, List.setIfInBounds_toArray, List.set_cons_zero, List.set_cons_succ]
    refine wpAnyH_take (i := 2) (oi := ⟨some 29, _, _, _, _, _⟩) (v := ?vg2_3) rfl (by kernel_rfl) (by kernel_rfl) (by kernel_rfl) (fun _ _ _ h => h) (Or.inl ⟨by rfl, ?yg2_3⟩) hHeld ?rg2_3
    case yg2_3 =>
      intro wq hSw
      (try dsimp only at hSw)
      have q0 := (hSw.cell (World.block_lt_of_cell? w4 _ n0)).trans n0
      first | (go_simp; done) | (go_simp; with_reducible rfl)
    try simp only [Act.put, List.setIfInBounds_toArray, List.set_cons_zero, List.set_cons_succ]
    refine wpAnyH_take (i := 3) (oi := ⟨some 30, _, _, _, _, _⟩) (v := ?vg3_4) rfl (by kernel_rfl) (by kernel_rfl) (by kernel_rfl) (fun _ _ _ h => h) (Or.inl ⟨by rfl, ?yg3_4⟩) hHeld ?rg3_4
    case yg3_4 =>
      intro wq hSw
      (try dsimp only at hSw)
      have q0 := (hSw.cell (World.block_lt_of_cell? w4 _ n0)).trans n0
      first | (go_simp; done) | (go_simp; with_reducible rfl)
    try simp only [Act.put, List.setIfInBounds_toArray, List.set_cons_zero, List.set_cons_succ]
    refine wpAnyH_ready (rs := [1, 6]) (by kernel_rfl) (by simp) ?_
    refine AllReadyH.cons (o := ⟨some 28, _, _, _, _, _⟩) rfl (fun K hK => ?_) (AllReadyH.cons (o := ⟨some 7, _, _, _, _, _⟩) rfl (fun K hK => ?_) (AllReadyH.nil))
    · go_simp
      have hh := rowsOf_any n n A N cp l h1 h2 h1 h2 HN.out v_1 (HSa.out.below hHeld (Nat.le_refl _))
      refine hh.mono ?_; clear hh; rintro e v_5 ⟨ga, rfl, hga, hbN, hrow⟩
      have ra := Lib.hid hrow
      clear hrow
      have hga2 := (ra.out (fun _ => False) (fun _ _ _ _ h => h)).at_.lt
      go_wp2_with fail
      have hHeld := hHeld.trans (hbN.mono hHeld.size)
      have hfN : Fr (fun _ => False) v_1 v_5 := Fr.of_below hbN
      have hz_6 := hbN.size
      clear hbN
      refine hK.out _ _ hHeld (fun _ => ?_)
      clear hK K hfN
      try simp only [Act.put, List.setIfInBounds_toArray, List.set_cons_zero, List.set_cons_succ]
      refine wpAnyH_ready (rs := [4, 6]) (by kernel_rfl) (by simp) ?_
      refine AllReadyH.cons (o := ⟨some 31, _, _, _, _, _⟩) rfl (fun K hK => ?_) (AllReadyH.cons (o := ⟨some 7, _, _, _, _, _⟩) rfl (fun K hK => ?_) (AllReadyH.nil))
      · go_simp
        have hh := build_any n n h2 h2 _ enters_unit #[] one v_5 (tells_unit n _)
        refine hh.mono ?_; clear hh; rintro e v_10 ⟨v, rfl, ⟨Au, cu, rfl, hgu⟩, hbN⟩
        have gu := Lib.hid hgu
        have hub := Lib.hid (fun b o (hn : 0 < n * n) (hA : Au = some ⟨b, o, none⟩) => And.intro (ownsRow_new (gu.out.row hn) hn hA) (gu.out.own.sl.lt (by decide) hn hA))
        clear hgu
        go_wp2_with fail
        have hHeld := hHeld.trans (hbN.mono hHeld.size)
        have hfN : Fr (fun _ => False) v_5 v_10 := Fr.of_below hbN
        have hz_11 := hbN.size
        have ra_12 := Lib.hid (fun (S : Nat → Prop) hS => (ra.out S hS).fr hfN (fun h => h) (fun _ h => h.elim))
        clear ra
        clear hbN
        refine hK.out _ _ hHeld (fun _ => ?_)
        clear hK K hfN
        try simp only [Act.put, List.setIfInBounds_toArray, List.set_cons_zero, List.set_cons_succ]
        refine wpAnyH_ready (rs := [5, 6]) (by kernel_rfl) (by simp) ?_
        refine AllReadyH.cons (o := ⟨some 32, _, _, _, _, _⟩) rfl (fun K hK => ?_) (AllReadyH.cons (o := ⟨some 7, _, _, _, _, _⟩) rfl (fun K hK => ?_) (AllReadyH.nil))
        · go_simp
          have hh := rowsOf_any n n Au (n * n) cu (tabL n n one) h1 h2 h1 h2 rfl v_10 gu.out.own.sl
          refine hh.mono ?_; clear hh; rintro e v_17 ⟨gb, rfl, hgb, hbN, hrow⟩
          have ru := Lib.hid (RowsAt.congr (hrow (fun b => (b < w4.heap.size ∨ b = ga)) (fun b o hn hA hk => by
            have hk : (b < w4.heap.size ∨ b = ga) := hk
            have hb := hub.out b o hn hA
            omega)).at_ (fun i hi k hk => mx_tabL one hi hk))
          clear hrow
          have hgb2 := ru.out.lt
          go_wp2_with fail
          have hHeld := hHeld.trans (hbN.mono hHeld.size)
          have hfN : Fr (fun _ => False) v_10 v_17 := Fr.of_below hbN
          have hz_18 := hbN.size
          have ra_19 := Lib.hid (fun (S : Nat → Prop) hS => (ra_12.out S hS).fr hfN (fun h => h) (fun _ h => h.elim))
          clear ra_12
          have gu_20 := Lib.hid (gu.out.below hbN)
          clear gu
          clear hbN
          refine hK.out _ _ hHeld (fun _ => ?_)
          clear hK K hfN
          try simp only [Act.put, List.setIfInBounds_toArray, List.set_cons_zero, List.set_cons_succ]
          refine wpAnyH_ready (rs := [6]) (by kernel_rfl) (by simp) ?_
          refine AllReadyH.cons (o := ⟨some 7, _, _, _, _, _⟩) rfl (fun K hK => ?_) (AllReadyH.nil)
          have ru_26 := Lib.hid (ru.out.wid (fun b => (b < w4.heap.size ∨ b = ga) ∨ b = v_17.heap.size) (fun b hlt hk => hk.elim id (fun hk => absurd hk (Nat.ne_of_lt hlt))))
          clear ru
          go_simp
          have hbN : Below v_17.heap.size v_17 (v_17.alloc (.cells #[.slice none 0 0] 57)) := (Below.refl _ _).alloc (Nat.le_refl _) _
          have hx := heap_alloc_new v_17 (.cells #[.slice none 0 0] 57)
          have hz_28 : v_17.heap.size + 1 ≤ (v_17.alloc (.cells #[.slice none 0 0] 57)).heap.size ∧ (v_17.alloc (.cells #[.slice none 0 0] 57)).heap.size ≤ v_17.heap.size + 1 := by simp
          obtain ⟨v_27, hw⟩ : ∃ v_27, v_27 = v_17.alloc (.cells #[.slice none 0 0] 57) := ⟨_, rfl⟩
          rw [← hw] at hbN hx hz_28 ⊢
          clear hw
          have hHeld := hHeld.trans (hbN.mono hHeld.size)
          have hfN : Fr (fun _ => False) v_17 v_27 := Fr.of_below hbN
          have ra_29 := Lib.hid (fun (S : Nat → Prop) hS => (ra_19.out S hS).fr hfN (fun h => h) (fun _ h => h.elim))
          clear ra_19
          have gu_30 := Lib.hid (gu_20.out.below hbN)
          clear gu_20
          have ru_31 := Lib.hid (ru_26.out.fr hfN (fun h => h) (fun _ h => h.elim))
          clear ru_26
          have bl_32 := Lib.hid hx
          clear hx
          refine hK.out _ _ hHeld (fun _ => ?_)
          clear hK K hfN
          try simp only [Act.put, List.setIfInBounds_toArray, List.set_cons_zero, List.set_cons_succ]
          refine wpAnyH_ready (rs := [7]) (by kernel_rfl) (by simp) ?_
          refine AllReadyH.cons (o := ⟨none, _, _, _, _, _⟩) rfl (fun K hK => ?_) (AllReadyH.nil)
          have q0 : v_27.cell? ⟨v_17.heap.size, 0, none⟩ = some (.slice none 0 0) := by rw [cell_of_row _ _ _ _ _ _ bl_32.out]; rfl
          have q1 : v_27.frozen? ⟨v_17.heap.size, 0, none⟩ = false := frozen_of_row _ _ _ _ _ bl_32.out
          go_simp
          have hx := heap_setCell_same v_27 (v_17.heap.size) 0 _ _ (.slice (some ⟨ga, 0, none⟩) n n) bl_32.out
          have hfN : Fr (fun k => k = v_17.heap.size) v_27 (v_27.setCell ⟨v_17.heap.size, 0, none⟩ (.slice (some ⟨ga, 0, none⟩) n n)) := Fr.setCell (S := fun k => k = v_17.heap.size) (Fr.refl _ _) (.inr rfl) _
          have hHeld := hHeld.setCell (p := ⟨v_17.heap.size, 0, none⟩) (by show _ ≤ v_17.heap.size; omega) (.slice (some ⟨ga, 0, none⟩) n n)
          have hz_34 : v_27.heap.size ≤ (v_27.setCell ⟨v_17.heap.size, 0, none⟩ (.slice (some ⟨ga, 0, none⟩) n n)).heap.size ∧ (v_27.setCell ⟨v_17.heap.size, 0, none⟩ (.slice (some ⟨ga, 0, none⟩) n n)).heap.size ≤ v_27.heap.size := by simp
          obtain ⟨v_33, hw⟩ : ∃ v_33, v_33 = v_27.setCell ⟨v_17.heap.size, 0, none⟩ (.slice (some ⟨ga, 0, none⟩) n n) := ⟨_, rfl⟩
          rw [← hw] at hHeld hx hfN hz_34 ⊢
          clear hw q0 q1
          have ra_35 := Lib.hid (fun (S : Nat → Prop) (hS : ∀ b o, 0 < N → A = some ⟨b, o, none⟩ → ¬ S b) => (ra_29.out (fun k => S k ∨ k = v_17.heap.size) (fun b o hn hA hk => hk.elim (hS b o hn hA) (fun hk => by have := HSa.out.lt (by decide) hn hA; omega))).fr hfN (fun h => by have h : ga = v_17.heap.size := h; omega) (fun b hb => .inr hb))
          clear ra_29
          clear gu_30
          have ru_37 := Lib.hid (ru_31.out.fr hfN (fun h => by have h : gb = v_17.heap.size := h; omega) (fun b hb => .inr hb))
          clear ru_31
          clear bl_32
          have bl_40 := Lib.hid hx
          clear hx
          refine hK.out _ _ hHeld (fun _ => ?_)
          clear hK K hfN
          try simp only [Act.put, List.setIfInBounds_toArray, List.set_cons_zero, List.set_cons_succ]
          refine wpAnyH_take (i := 8) (oi := ⟨some 8, _, _, _, _, _⟩) (v := ?vg8_41) rfl (by kernel_rfl) (by kernel_rfl) (by kernel_rfl) (fun _ _ _ h => h) (Or.inl ⟨by rfl, ?yg8_41⟩) hHeld ?rg8_41
          case yg8_41 =>
            intro wq hSw
            (try dsimp only at hSw)
            first | (go_simp; done) | (go_simp; with_reducible rfl)
          try simp only [Act.put, List.setIfInBounds_toArray, List.set_cons_zero, List.set_cons_succ]
          refine wpAnyH_done (by kernel_rfl) ?_ _
          go_wp2_with fail
          go_meet
          case rel => exact ⟨v_17.heap.size, ga, gb, rfl, rfl, hHeld, ⟨by omega, by omega, by omega, by omega, by omega⟩, bl_40.out, (fun S hS => (ra_35.out S hS).mono (fun _ h => by first | exact h | exact .inl h)), ru_37.out.wid _ (fun _ _ h => .inl h)⟩
        · go_simp
          have hbN : Below v_10.heap.size v_10 (v_10.alloc (.cells #[.slice none 0 0] 57)) := (Below.refl _ _).alloc (Nat.le_refl _) _
          have hx := heap_alloc_new v_10 (.cells #[.slice none 0 0] 57)
          have hz_22 : v_10.heap.size + 1 ≤ (v_10.alloc (.cells #[.slice none 0 0] 57)).heap.size ∧ (v_10.alloc (.cells #[.slice none 0 0] 57)).heap.size ≤ v_10.heap.size + 1 := by simp
          obtain ⟨v_21, hw⟩ : ∃ v_21, v_21 = v_10.alloc (.cells #[.slice none 0 0] 57) := ⟨_, rfl⟩
          rw [← hw] at hbN hx hz_22 ⊢
          clear hw
          have hHeld := hHeld.trans (hbN.mono hHeld.size)
          have hfN : Fr (fun _ => False) v_10 v_21 := Fr.of_below hbN
          have ra_23 := Lib.hid (fun (S : Nat → Prop) hS => (ra_12.out S hS).fr hfN (fun h => h) (fun _ h => h.elim))
          clear ra_12
          have gu_24 := Lib.hid (gu.out.below hbN)
          clear gu
          have bl_25 := Lib.hid hx
          clear hx
          refine hK.out _ _ hHeld (fun _ => ?_)
          clear hK K hfN
          try simp only [Act.put, List.setIfInBounds_toArray, List.set_cons_zero, List.set_cons_succ]
          refine wpAnyH_ready (rs := [5]) (by kernel_rfl) (by simp) ?_
          refine AllReadyH.cons (o := ⟨some 32, _, _, _, _, _⟩) rfl (fun K hK => ?_) (AllReadyH.nil)
          go_simp
          have hh := rowsOf_any n n Au (n * n) cu (tabL n n one) h1 h2 h1 h2 rfl v_21 gu_24.out.own.sl
          refine hh.mono ?_; clear hh; rintro e v_42 ⟨gb, rfl, hgb, hbN, hrow⟩
          have ru := Lib.hid (RowsAt.congr (hrow (fun b => (b < w4.heap.size ∨ b = ga) ∨ b = v_10.heap.size) (fun b o hn hA hk => by
            have hk : (b < w4.heap.size ∨ b = ga) ∨ b = v_10.heap.size := hk
            have hb := hub.out b o hn hA
            omega)).at_ (fun i hi k hk => mx_tabL one hi hk))
          clear hrow
          have hgb2 := ru.out.lt
          go_wp2_with fail
          have hHeld := hHeld.trans (hbN.mono hHeld.size)
          have hfN : Fr (fun _ => False) v_21 v_42 := Fr.of_below hbN
          have hz_43 := hbN.size
          have ra_44 := Lib.hid (fun (S : Nat → Prop) hS => (ra_23.out S hS).fr hfN (fun h => h) (fun _ h => h.elim))
          clear ra_23
          have gu_45 := Lib.hid (gu_24.out.below hbN)
          clear gu_24
          have bl_47 := Lib.hid (hfN.row_some bl_25.out (fun h => h))
          clear bl_25
          clear hbN
          refine hK.out _ _ hHeld (fun _ => ?_)
          clear hK K hfN
          try simp only [Act.put, List.setIfInBounds_toArray, List.set_cons_zero, List.set_cons_succ]
          refine wpAnyH_ready (rs := [7]) (by kernel_rfl) (by simp) ?_
          refine AllReadyH.cons (o := ⟨none, _, _, _, _, _⟩) rfl (fun K hK => ?_) (AllReadyH.nil)
          have q0 : v_42.cell? ⟨v_10.heap.size, 0, none⟩ = some (.slice none 0 0) := by rw [cell_of_row _ _ _ _ _ _ bl_47.out]; rfl
          have q1 : v_42.frozen? ⟨v_10.heap.size, 0, none⟩ = false := frozen_of_row _ _ _ _ _ bl_47.out
          go_simp
          have hx := heap_setCell_same v_42 (v_10.heap.size) 0 _ _ (.slice (some ⟨ga, 0, none⟩) n n) bl_47.out
          have hfN : Fr (fun k => k = v_10.heap.size) v_42 (v_42.setCell ⟨v_10.heap.size, 0, none⟩ (.slice (some ⟨ga, 0, none⟩) n n)) := Fr.setCell (S := fun k => k = v_10.heap.size) (Fr.refl _ _) (.inr rfl) _
          have hHeld := hHeld.setCell (p := ⟨v_10.heap.size, 0, none⟩) (by show _ ≤ v_10.heap.size; omega) (.slice (some ⟨ga, 0, none⟩) n n)
          have hz_49 : v_42.heap.size ≤ (v_42.setCell ⟨v_10.heap.size, 0, none⟩ (.slice (some ⟨ga, 0, none⟩) n n)).heap.size ∧ (v_42.setCell ⟨v_10.heap.size, 0, none⟩ (.slice (some ⟨ga, 0, none⟩) n n)).heap.size ≤ v_42.heap.size := by simp
          obtain ⟨v_48, hw⟩ : ∃ v_48, v_48 = v_42.setCell ⟨v_10.heap.size, 0, none⟩ (.slice (some ⟨ga, 0, none⟩) n n) := ⟨_, rfl⟩
          rw [← hw] at hHeld hx hfN hz_49 ⊢
          clear hw q0 q1
          have ra_50 := Lib.hid (fun (S : Nat → Prop) (hS : ∀ b o, 0 < N → A = some ⟨b, o, none⟩ → ¬ S b) => (ra_44.out (fun k => S k ∨ k = v_10.heap.size) (fun b o hn hA hk => hk.elim (hS b o hn hA) (fun hk => by have := HSa.out.lt (by decide) hn hA; omega))).fr hfN (fun h => by have h : ga = v_10.heap.size := h; omega) (fun b hb => .inr hb))
          clear ra_44
          clear gu_45
          have ru_53 := Lib.hid (ru.out.fr hfN (fun h => by have h : gb = v_10.heap.size := h; omega) (fun b hb => .inr hb))
          clear ru
          clear bl_47
          have bl_55 := Lib.hid hx
          clear hx
          refine hK.out _ _ hHeld (fun _ => ?_)
          clear hK K hfN
          try simp only [Act.put, List.setIfInBounds_toArray, List.set_cons_zero, List.set_cons_succ]
          refine wpAnyH_take (i := 8) (oi := ⟨some 8, _, _, _, _, _⟩) (v := ?vg8_56) rfl (by kernel_rfl) (by kernel_rfl) (by kernel_rfl) (fun _ _ _ h => h) (Or.inl ⟨by rfl, ?yg8_56⟩) hHeld ?rg8_56
          case yg8_56 =>
            intro wq hSw
            (try dsimp only at hSw)
            first | (go_simp; done) | (go_simp; with_reducible rfl)
          try simp only [Act.put, List.setIfInBounds_toArray, List.set_cons_zero, List.set_cons_succ]
          refine wpAnyH_done (by kernel_rfl) ?_ _
          go_wp2_with fail
          go_meet
          case rel => exact ⟨v_10.heap.size, ga, gb, rfl, rfl, hHeld, ⟨by omega, by omega, by omega, by omega, by omega⟩, bl_55.out, (fun S hS => (ra_50.out S hS).mono (fun _ h => by first | exact h | exact .inl h)), ru_53.out.wid _ (fun _ _ h => .inl h)⟩
      · go_simp
        have hbN : Below v_5.heap.size v_5 (v_5.alloc (.cells #[.slice none 0 0] 57)) := (Below.refl _ _).alloc (Nat.le_refl _) _
        have hx := heap_alloc_new v_5 (.cells #[.slice none 0 0] 57)
        have hz_14 : v_5.heap.size + 1 ≤ (v_5.alloc (.cells #[.slice none 0 0] 57)).heap.size ∧ (v_5.alloc (.cells #[.slice none 0 0] 57)).heap.size ≤ v_5.heap.size + 1 := by simp
        obtain ⟨v_13, hw⟩ : ∃ v_13, v_13 = v_5.alloc (.cells #[.slice none 0 0] 57) := ⟨_, rfl⟩
        rw [← hw] at hbN hx hz_14 ⊢
        clear hw
        have hHeld := hHeld.trans (hbN.mono hHeld.size)
        have hfN : Fr (fun _ => False) v_5 v_13 := Fr.of_below hbN
        have ra_15 := Lib.hid (fun (S : Nat → Prop) hS => (ra.out S hS).fr hfN (fun h => h) (fun _ h => h.elim))
        clear ra
        have bl_16 := Lib.hid hx
        clear hx
        refine hK.out _ _ hHeld (fun _ => ?_)
        clear hK K hfN
        try simp only [Act.put, List.setIfInBounds_toArray, List.set_cons_zero, List.set_cons_succ]
        refine wpAnyH_ready (rs := [4]) (by kernel_rfl) (by simp) ?_
        refine AllReadyH.cons (o := ⟨some 31, _, _, _, _, _⟩) rfl (fun K hK => ?_) (AllReadyH.nil)
        go_simp
        have hh := build_any n n h2 h2 _ enters_unit #[] one v_13 (tells_unit n _)
        refine hh.mono ?_; clear hh; rintro e v_57 ⟨v, rfl, ⟨Au, cu, rfl, hgu⟩, hbN⟩
        have gu := Lib.hid hgu
        have hub := Lib.hid (fun b o (hn : 0 < n * n) (hA : Au = some ⟨b, o, none⟩) => And.intro (ownsRow_new (gu.out.row hn) hn hA) (gu.out.own.sl.lt (by decide) hn hA))
        clear hgu
        go_wp2_with fail
        have hHeld := hHeld.trans (hbN.mono hHeld.size)
        have hfN : Fr (fun _ => False) v_13 v_57 := Fr.of_below hbN
        have hz_58 := hbN.size
        have ra_59 := Lib.hid (fun (S : Nat → Prop) hS => (ra_15.out S hS).fr hfN (fun h => h) (fun _ h => h.elim))
        clear ra_15
        have bl_61 := Lib.hid (hfN.row_some bl_16.out (fun h => h))
        clear bl_16
        clear hbN
        refine hK.out _ _ hHeld (fun _ => ?_)
        clear hK K hfN
        try simp only [Act.put, List.setIfInBounds_toArray, List.set_cons_zero, List.set_cons_succ]
        refine wpAnyH_ready (rs := [5]) (by kernel_rfl) (by simp) ?_
        refine AllReadyH.cons (o := ⟨some 32, _, _, _, _, _⟩) rfl (fun K hK => ?_) (AllReadyH.nil)
        go_simp
        have hh := rowsOf_any n n Au (n * n) cu (tabL n n one) h1 h2 h1 h2 rfl v_57 gu.out.own.sl
        refine hh.mono ?_; clear hh; rintro e v_62 ⟨gb, rfl, hgb, hbN, hrow⟩
        have ru := Lib.hid (RowsAt.congr (hrow (fun b => (b < w4.heap.size ∨ b = ga) ∨ b = v_5.heap.size) (fun b o hn hA hk => by
          have hk : (b < w4.heap.size ∨ b = ga) ∨ b = v_5.heap.size := hk
          have hb := hub.out b o hn hA
          omega)).at_ (fun i hi k hk => mx_tabL one hi hk))
        clear hrow
        have hgb2 := ru.out.lt
        go_wp2_with fail
        have hHeld := hHeld.trans (hbN.mono hHeld.size)
        have hfN : Fr (fun _ => False) v_57 v_62 := Fr.of_below hbN
        have hz_63 := hbN.size
        have ra_64 := Lib.hid (fun (S : Nat → Prop) hS => (ra_59.out S hS).fr hfN (fun h => h) (fun _ h => h.elim))
        clear ra_59
        have gu_66 := Lib.hid (gu.out.below hbN)
        clear gu
        have bl_67 := Lib.hid (hfN.row_some bl_61.out (fun h => h))
        clear bl_61
        clear hbN
        refine hK.out _ _ hHeld (fun _ => ?_)
        clear hK K hfN
        try simp only [Act.put, List.setIfInBounds_toArray, List.set_cons_zero, List.set_cons_succ]
        refine wpAnyH_ready (rs := [7]) (by kernel_rfl) (by simp) ?_
        refine AllReadyH.cons (o := ⟨none, _, _, _, _, _⟩) rfl (fun K hK => ?_) (AllReadyH.nil)
        have q0 : v_62.cell? ⟨v_5.heap.size, 0, none⟩ = some (.slice none 0 0) := by rw [cell_of_row _ _ _ _ _ _ bl_67.out]; rfl
        have q1 : v_62.frozen? ⟨v_5.heap.size, 0, none⟩ = false := frozen_of_row _ _ _ _ _ bl_67.out
        go_simp
        have hx := heap_setCell_same v_62 (v_5.heap.size) 0 _ _ (.slice (some ⟨ga, 0, none⟩) n n) bl_67.out
        have hfN : Fr (fun k => k = v_5.heap.size) v_62 (v_62.setCell ⟨v_5.heap.size, 0, none⟩ (.slice (some ⟨ga, 0, none⟩) n n)) := Fr.setCell (S := fun k => k = v_5.heap.size) (Fr.refl _ _) (.inr rfl) _
        have hHeld := hHeld.setCell (p := ⟨v_5.heap.size, 0, none⟩) (by show _ ≤ v_5.heap.size; omega) (.slice (some ⟨ga, 0, none⟩) n n)
        have hz_69 : v_62.heap.size ≤ (v_62.setCell ⟨v_5.heap.size, 0, none⟩ (.slice (some ⟨ga, 0, none⟩) n n)).heap.size ∧ (v_62.setCell ⟨v_5.heap.size, 0, none⟩ (.slice (some ⟨ga, 0, none⟩) n n)).heap.size ≤ v_62.heap.size := by simp
        obtain ⟨v_68, hw⟩ : ∃ v_68, v_68 = v_62.setCell ⟨v_5.heap.size, 0, none⟩ (.slice (some ⟨ga, 0, none⟩) n n) := ⟨_, rfl⟩
        rw [← hw] at hHeld hx hfN hz_69 ⊢
        clear hw q0 q1
        have ra_70 := Lib.hid (fun (S : Nat → Prop) (hS : ∀ b o, 0 < N → A = some ⟨b, o, none⟩ → ¬ S b) => (ra_64.out (fun k => S k ∨ k = v_5.heap.size) (fun b o hn hA hk => hk.elim (hS b o hn hA) (fun hk => by have := HSa.out.lt (by decide) hn hA; omega))).fr hfN (fun h => by have h : ga = v_5.heap.size := h; omega) (fun b hb => .inr hb))
        clear ra_64
        clear gu_66
        have ru_73 := Lib.hid (ru.out.fr hfN (fun h => by have h : gb = v_5.heap.size := h; omega) (fun b hb => .inr hb))
        clear ru
        clear bl_67
        have bl_75 := Lib.hid hx
        clear hx
        refine hK.out _ _ hHeld (fun _ => ?_)
        clear hK K hfN
        try simp only [Act.put, List.setIfInBounds_toArray, List.set_cons_zero, List.set_cons_succ]
        refine wpAnyH_take (i := 8) (oi := ⟨some 8, _, _, _, _, _⟩) (v := ?vg8_76) rfl (by kernel_rfl) (by kernel_rfl) (by kernel_rfl) (fun _ _ _ h => h) (Or.inl ⟨by rfl, ?yg8_76⟩) hHeld ?rg8_76
        case yg8_76 =>
          intro wq hSw
          (try dsimp only at hSw)
          first | (go_simp; done) | (go_simp; with_reducible rfl)
        try simp only [Act.put, List.setIfInBounds_toArray, List.set_cons_zero, List.set_cons_succ]
        refine wpAnyH_done (by kernel_rfl) ?_ _
        go_wp2_with fail
        go_meet
        case rel => exact ⟨v_5.heap.size, ga, gb, rfl, rfl, hHeld, ⟨by omega, by omega, by omega, by omega, by omega⟩, bl_75.out, (fun S hS => (ra_70.out S hS).mono (fun _ h => by first | exact h | exact .inl h)), ru_73.out.wid _ (fun _ _ h => .inl h)⟩
    · go_simp
      have hbN : Below v_1.heap.size v_1 (v_1.alloc (.cells #[.slice none 0 0] 57)) := (Below.refl _ _).alloc (Nat.le_refl _) _
      have hx := heap_alloc_new v_1 (.cells #[.slice none 0 0] 57)
      have hz_8 : v_1.heap.size + 1 ≤ (v_1.alloc (.cells #[.slice none 0 0] 57)).heap.size ∧ (v_1.alloc (.cells #[.slice none 0 0] 57)).heap.size ≤ v_1.heap.size + 1 := by simp
      obtain ⟨v_7, hw⟩ : ∃ v_7, v_7 = v_1.alloc (.cells #[.slice none 0 0] 57) := ⟨_, rfl⟩
      rw [← hw] at hbN hx hz_8 ⊢
      clear hw
      have hHeld := hHeld.trans (hbN.mono hHeld.size)
      have hfN : Fr (fun _ => False) v_1 v_7 := Fr.of_below hbN
      have bl_9 := Lib.hid hx
      clear hx
      refine hK.out _ _ hHeld (fun _ => ?_)
      clear hK K hfN
      try simp only [Act.put, List.setIfInBounds_toArray, List.set_cons_zero, List.set_cons_succ]
      refine wpAnyH_ready (rs := [1]) (by kernel_rfl) (by simp) ?_
      refine AllReadyH.cons (o := ⟨some 28, _, _, _, _, _⟩) rfl (fun K hK => ?_) (AllReadyH.nil)
      go_simp
      have hh := rowsOf_any n n A N cp l h1 h2 h1 h2 HN.out v_7 (HSa.out.below hHeld (Nat.le_refl _))
      refine hh.mono ?_; clear hh; rintro e v_77 ⟨ga, rfl, hga, hbN, hrow⟩
      have ra := Lib.hid hrow
      clear hrow
      have hga2 := (ra.out (fun _ => False) (fun _ _ _ _ h => h)).at_.lt
      go_wp2_with fail
      have hHeld := hHeld.trans (hbN.mono hHeld.size)
      have hfN : Fr (fun _ => False) v_7 v_77 := Fr.of_below hbN
      have hz_78 := hbN.size
      have bl_80 := Lib.hid (hfN.row_some bl_9.out (fun h => h))
      clear bl_9
      clear hbN
      refine hK.out _ _ hHeld (fun _ => ?_)
      clear hK K hfN
      try simp only [Act.put, List.setIfInBounds_toArray, List.set_cons_zero, List.set_cons_succ]
      refine wpAnyH_ready (rs := [4]) (by kernel_rfl) (by simp) ?_
      refine AllReadyH.cons (o := ⟨some 31, _, _, _, _, _⟩) rfl (fun K hK => ?_) (AllReadyH.nil)
      go_simp
      have hh := build_any n n h2 h2 _ enters_unit #[] one v_77 (tells_unit n _)
      refine hh.mono ?_; clear hh; rintro e v_81 ⟨v, rfl, ⟨Au, cu, rfl, hgu⟩, hbN⟩
      have gu := Lib.hid hgu
      have hub := Lib.hid (fun b o (hn : 0 < n * n) (hA : Au = some ⟨b, o, none⟩) => And.intro (ownsRow_new (gu.out.row hn) hn hA) (gu.out.own.sl.lt (by decide) hn hA))
      clear hgu
      go_wp2_with fail
      have hHeld := hHeld.trans (hbN.mono hHeld.size)
      have hfN : Fr (fun _ => False) v_77 v_81 := Fr.of_below hbN
      have hz_82 := hbN.size
      have ra_84 := Lib.hid (fun (S : Nat → Prop) hS => (ra.out S hS).fr hfN (fun h => h) (fun _ h => h.elim))
      clear ra
      have bl_85 := Lib.hid (hfN.row_some bl_80.out (fun h => h))
      clear bl_80
      clear hbN
      refine hK.out _ _ hHeld (fun _ => ?_)
      clear hK K hfN
      try simp only [Act.put, List.setIfInBounds_toArray, List.set_cons_zero, List.set_cons_succ]
      refine wpAnyH_ready (rs := [5]) (by kernel_rfl) (by simp) ?_
      refine AllReadyH.cons (o := ⟨some 32, _, _, _, _, _⟩) rfl (fun K hK => ?_) (AllReadyH.nil)
      go_simp
      have hh := rowsOf_any n n Au (n * n) cu (tabL n n one) h1 h2 h1 h2 rfl v_81 gu.out.own.sl
      refine hh.mono ?_; clear hh; rintro e v_86 ⟨gb, rfl, hgb, hbN, hrow⟩
      have ru := Lib.hid (RowsAt.congr (hrow (fun b => (b < w4.heap.size ∨ b = ga) ∨ b = v_1.heap.size) (fun b o hn hA hk => by
        have hk : (b < w4.heap.size ∨ b = ga) ∨ b = v_1.heap.size := hk
        have hb := hub.out b o hn hA
        omega)).at_ (fun i hi k hk => mx_tabL one hi hk))
      clear hrow
      have hgb2 := ru.out.lt
      go_wp2_with fail
      have hHeld := hHeld.trans (hbN.mono hHeld.size)
      have hfN : Fr (fun _ => False) v_81 v_86 := Fr.of_below hbN
      have hz_87 := hbN.size
      have ra_88 := Lib.hid (fun (S : Nat → Prop) hS => (ra_84.out S hS).fr hfN (fun h => h) (fun _ h => h.elim))
      clear ra_84
      have gu_90 := Lib.hid (gu.out.below hbN)
      clear gu
      have bl_91 := Lib.hid (hfN.row_some bl_85.out (fun h => h))
      clear bl_85
      clear hbN
      refine hK.out _ _ hHeld (fun _ => ?_)
      clear hK K hfN
      try simp only [Act.put, List.setIfInBounds_toArray, List.set_cons_zero, List.set_cons_succ]
      refine wpAnyH_ready (rs := [7]) (by kernel_rfl) (by simp) ?_
      refine AllReadyH.cons (o := ⟨none, _, _, _, _, _⟩) rfl (fun K hK => ?_) (AllReadyH.nil)
      have q0 : v_86.cell? ⟨v_1.heap.size, 0, none⟩ = some (.slice none 0 0) := by rw [cell_of_row _ _ _ _ _ _ bl_91.out]; rfl
      have q1 : v_86.frozen? ⟨v_1.heap.size, 0, none⟩ = false := frozen_of_row _ _ _ _ _ bl_91.out
      go_simp
      have hx := heap_setCell_same v_86 (v_1.heap.size) 0 _ _ (.slice (some ⟨ga, 0, none⟩) n n) bl_91.out
      have hfN : Fr (fun k => k = v_1.heap.size) v_86 (v_86.setCell ⟨v_1.heap.size, 0, none⟩ (.slice (some ⟨ga, 0, none⟩) n n)) := Fr.setCell (S := fun k => k = v_1.heap.size) (Fr.refl _ _) (.inr rfl) _
      have hHeld := hHeld.setCell (p := ⟨v_1.heap.size, 0, none⟩) (by show _ ≤ v_1.heap.size; omega) (.slice (some ⟨ga, 0, none⟩) n n)
      have hz_93 : v_86.heap.size ≤ (v_86.setCell ⟨v_1.heap.size, 0, none⟩ (.slice (some ⟨ga, 0, none⟩) n n)).heap.size ∧ (v_86.setCell ⟨v_1.heap.size, 0, none⟩ (.slice (some ⟨ga, 0, none⟩) n n)).heap.size ≤ v_86.heap.size := by simp
      obtain ⟨v_92, hw⟩ : ∃ v_92, v_92 = v_86.setCell ⟨v_1.heap.size, 0, none⟩ (.slice (some ⟨ga, 0, none⟩) n n) := ⟨_, rfl⟩
      rw [← hw] at hHeld hx hfN hz_93 ⊢
      clear hw q0 q1
      have ra_94 := Lib.hid (fun (S : Nat → Prop) (hS : ∀ b o, 0 < N → A = some ⟨b, o, none⟩ → ¬ S b) => (ra_88.out (fun k => S k ∨ k = v_1.heap.size) (fun b o hn hA hk => hk.elim (hS b o hn hA) (fun hk => by have := HSa.out.lt (by decide) hn hA; omega))).fr hfN (fun h => by have h : ga = v_1.heap.size := h; omega) (fun b hb => .inr hb))
      clear ra_88
      clear gu_90
      have ru_97 := Lib.hid (ru.out.fr hfN (fun h => by have h : gb = v_1.heap.size := h; omega) (fun b hb => .inr hb))
      clear ru
      clear bl_91
      have bl_99 := Lib.hid hx
      clear hx
      refine hK.out _ _ hHeld (fun _ => ?_)
      clear hK K hfN
      try simp only [Act.put, List.setIfInBounds_toArray, List.set_cons_zero, List.set_cons_succ]
      refine wpAnyH_take (i := 8) (oi := ⟨some 8, _, _, _, _, _⟩) (v := ?vg8_100) rfl (by kernel_rfl) (by kernel_rfl) (by kernel_rfl) (fun _ _ _ h => h) (Or.inl ⟨by rfl, ?yg8_100⟩) hHeld ?rg8_100
      case yg8_100 =>
        intro wq hSw
        (try dsimp only at hSw)
        first | (go_simp; done) | (go_simp; with_reducible rfl)
      try simp only [Act.put, List.setIfInBounds_toArray, List.set_cons_zero, List.set_cons_succ]
      refine wpAnyH_done (by kernel_rfl) ?_ _
      go_wp2_with fail
      go_meet
      case rel => exact ⟨v_1.heap.size, ga, gb, rfl, rfl, hHeld, ⟨by omega, by omega, by omega, by omega, by omega⟩, bl_99.out, (fun S hS => (ra_94.out S hS).mono (fun _ h => by first | exact h | exact .inl h)), ru_97.out.wid _ (fun _ _ h => .inl h)⟩
  case rest =>
    obtain ⟨g7, ga, gb, rfl, rfl, hb5, ⟨hg7, hga, hgb, hne1, hne2⟩, x7, hra, hru⟩ := hcut
    have I5 := Lib.hid (I4.out.later hb5)
    have xn := (hb5.block _ (block_lt hn0)).trans hn0
    have Hh := Lib.hid (Half.start (hra (Tg T ga) (fun b o hn hA hk => by
      have := HSa.out.lt (by decide) hn hA
      have := Hm.out.off b o hn hA
      rcases hk with hk | hk <;> omega)))
    have Hru := Lib.hid hru
    clear a0 a1 a2 n0 hra hru
    have k7 := cell_of_one x7
    go_wp2_with fail
    go_loopw [35] (fun i wr => ∃ k : Nat, k ≤ n ∧ i = .int .i64 (k : Int) ∧ Half wr ga n k (Tg T ga) (mx n l) ∧ RowsAt wr gb n n (fun b => b < w4.heap.size ∨ b = ga) one ∧ wr.heap[g7]? = some (.cells #[.slice (some ⟨ga, 0, none⟩) n n] 57 (0, 0)) ∧
        wr.heap[w2.heap.size]? = some (.cells #[.int .i64 (n : Int)] 3 (0, 0)) ∧ InvAt w wr F T (n : Int) (n : Int) A N cp) (fun i _ => n - (intOf i).toNat)
    case atStart => exact ⟨0, by omega, rfl, Hh.out, Hru.out, x7, xn, I5.out⟩
    case round =>
      clear k7 Hh Hru x7 xn
      obtain ⟨k, hk, rfl, hh, hru, x7, xn, hi⟩ := hrel
      have k7 := cell_of_one x7
      have kn := cell_of_one xn
      have hgl := hh.lt
      have hs7 := block_lt x7
      have hss := hi.size
      have X7 := Lib.hid x7; clear x7
      have Xn := Lib.hid xn; clear xn
      have Hi := Lib.hid hi; clear hi
      by_cases hlt : k < n
      · obtain ⟨A1, ka, s1⟩ := hh.cell (Nat.le_refl _) hlt
        obtain ⟨A2, c2, kb, s2, _⟩ := hru.cell hlt
        have fa := hh.free k
        have SAd := Lib.hid s1.drew
        have SBd := Lib.hid s2.drew
        have hgad : ga < wr.drew.heap.size := hgl
        have Hh := Lib.hid hh; clear hh
        have Hru := Lib.hid hru; clear hru
        clear s1 s2
        go_wp2_with fail
        refine wp_region_held_drew (S := fun w' => Fr (fun k => k = ga) wr.drew w') (by kernel_rfl) (Fr.refl _ _) (fun hHeld => ?_)
        clear hHeld
        refine wpAnyH_take (i := 0) (oi := ⟨some 38, _, _, _, _, _⟩) (v := ?vh0) rfl (by kernel_rfl) (by kernel_rfl) (by kernel_rfl) (fun _ _ _ h => h) (Or.inl ⟨by rfl, ?yh0⟩) (Fr.refl _ _) ?rh0
        case yh0 =>
          intro wq hSw
          (try dsimp only at hSw)
          have q := hSw.cell_some k7 (by show ¬ g7 = ga; omega)
          first | (go_simp; done) | (go_simp; with_reducible rfl)
        try simp only [Act.put, List.setIfInBounds_toArray, List.set_cons_zero, List.set_cons_succ]
        refine wpAnyH_take (i := 1) (oi := ⟨some 39, _, _, _, _, _⟩) (v := ?vh1) rfl (by kernel_rfl) (by kernel_rfl) (by kernel_rfl) (fun _ _ _ h => h) (Or.inl ⟨by rfl, ?yh1⟩) (Fr.refl _ _) ?rh1
        case yh1 =>
          intro wq hSw
          (try dsimp only at hSw)
          first | (go_simp; done) | (go_simp; with_reducible rfl)
        try simp only [Act.put, List.setIfInBounds_toArray, List.set_cons_zero, List.set_cons_succ]
        refine wpAnyH_take (i := 2) (oi := ⟨some 40, _, _, _, _, _⟩) (v := ?vh2) rfl (by kernel_rfl) (by kernel_rfl) (by kernel_rfl) (fun _ _ _ h => h) (Or.inl ⟨by rfl, ?yh2⟩) (Fr.refl _ _) ?rh2
        case yh2 =>
          intro wq hSw
          (try dsimp only at hSw)
          have q := hSw.cell_some k7 (by show ¬ g7 = ga; omega)
          first | (go_simp; done) | (go_simp; with_reducible rfl)
        try simp only [Act.put, List.setIfInBounds_toArray, List.set_cons_zero, List.set_cons_succ]
        refine wpAnyH_take (i := 3) (oi := ⟨some 41, _, _, _, _, _⟩) (v := ?vh3) rfl (by kernel_rfl) (by kernel_rfl) (by kernel_rfl) (fun _ _ _ h => h) (Or.inl ⟨by rfl, ?yh3⟩) (Fr.refl _ _) ?rh3
        case yh3 =>
          intro wq hSw
          (try dsimp only at hSw)
          first | (go_simp; done) | (go_simp; with_reducible rfl)
        try simp only [Act.put, List.setIfInBounds_toArray, List.set_cons_zero, List.set_cons_succ]
        refine wpAnyH_take (i := 4) (oi := ⟨some 42, _, _, _, _, _⟩) (v := ?vh4) rfl (by kernel_rfl) (by kernel_rfl) (by kernel_rfl) (fun _ _ _ h => h) (Or.inl ⟨by rfl, ?yh4⟩) (Fr.refl _ _) ?rh4
        case yh4 =>
          intro wq hSw
          (try dsimp only at hSw)
          first | (go_simp; done) | (go_simp; with_reducible rfl)
        try simp only [Act.put, List.setIfInBounds_toArray, List.set_cons_zero, List.set_cons_succ]
        refine wpAnyH_take (i := 6) (oi := ⟨some 44, _, _, _, _, _⟩) (v := ?vh6) rfl (by kernel_rfl) (by kernel_rfl) (by kernel_rfl) (fun _ _ _ h => h) (Or.inl ⟨by rfl, ?yh6⟩) (Fr.refl _ _) ?rh6
        case yh6 =>
          intro wq hSw
          (try dsimp only at hSw)
          first | (go_simp; done) | (go_simp; with_reducible rfl)
        try simp only [Act.put, List.setIfInBounds_toArray, List.set_cons_zero, List.set_cons_succ]
        refine wpAnyH_take (i := 7) (oi := ⟨some 45, _, _, _, _, _⟩) (v := ?vh7) rfl (by kernel_rfl) (by kernel_rfl) (by kernel_rfl) (fun _ _ _ h => h) (Or.inl ⟨by rfl, ?yh7⟩) (Fr.refl _ _) ?rh7
        case yh7 =>
          intro wq hSw
          (try dsimp only at hSw)
          first | (go_simp; done) | (go_simp; with_reducible rfl)
        try simp only [Act.put, List.setIfInBounds_toArray, List.set_cons_zero, List.set_cons_succ]
        refine wpAnyH_take (i := 8) (oi := ⟨some 46, _, _, _, _, _⟩) (v := ?vh8) rfl (by kernel_rfl) (by kernel_rfl) (by kernel_rfl) (fun _ _ _ h => h) (Or.inl ⟨by rfl, ?yh8⟩) (Fr.refl _ _) ?rh8
        case yh8 =>
          intro wq hSw
          (try dsimp only at hSw)
          first | (go_simp; done) | (go_simp; with_reducible rfl)
        try simp only [Act.put, List.setIfInBounds_toArray, List.set_cons_zero, List.set_cons_succ]
        refine wpAnyH_take (i := 9) (oi := ⟨some 47, _, _, _, _, _⟩) (v := ?vh9) rfl (by kernel_rfl) (by kernel_rfl) (by kernel_rfl) (fun _ _ _ h => h) (Or.inl ⟨by rfl, ?yh9⟩) (Fr.refl _ _) ?rh9
        case yh9 =>
          intro wq hSw
          (try dsimp only at hSw)
          have q := hSw.cell_some kb (by show ¬ gb = ga; omega)
          first | (go_simp; done) | (go_simp; with_reducible rfl)
        try simp only [Act.put, List.setIfInBounds_toArray, List.set_cons_zero, List.set_cons_succ]
        refine wpAnyH_ready (rs := [5]) (by kernel_rfl) (by simp) ?_
        refine AllReadyH.cons (o := ⟨some 43, _, _, _, _, _⟩) rfl (fun K hK => ?_) AllReadyH.nil
        go_simp
        refine hK.out _ _ (Fr.refl _ _) (fun hHeld => ?_)
        clear hK K hHeld
        try simp only [Act.put, List.setIfInBounds_toArray, List.set_cons_zero, List.set_cons_succ]
        refine wpAnyH_ready (rs := [10]) (by kernel_rfl) (by simp) ?_
        refine AllReadyH.cons (o := ⟨some 48, _, _, _, _, _⟩) rfl (fun K hK => ?_) AllReadyH.nil
        refine step_append_b (B := wr.drew.heap.size) rfl (.tmp 43) (.tmp 47) rfl rfl (Own.full SAd.out) (Nat.le_refl _) A2 n c2 (rowL n (one k)) rfl SBd.out (by omega) ?_
        intro A3 c3 w3 ho3 hb3 hrow3
        rw [← cells_append, aug_rows] at ho3 hrow3
        have hfr : Fr (fun k => k = ga) wr.drew w3 := Fr.of_below hb3
        have S3 := Lib.hid ho3.sl
        have hnew := fun b o hn hA => ownsRow_new (b := b) (o := o) (hrow3 h1) hn hA
        have hsz3 := hb3.size
        have z3 := (hb3.frozen (p := ⟨ga, k, none⟩) hgad).trans fa
        have k3 := (hb3.cell (p := ⟨ga, k, none⟩) hgad).trans ka
        have Hb3 := Lib.hid hb3
        clear ho3 hrow3 hb3
        refine hK.out _ _ hfr (fun hHeld => ?_)
        clear hK K hHeld
        try simp only [Act.put, List.setIfInBounds_toArray, List.set_cons_zero, List.set_cons_succ]
        refine wpAnyH_re (S' := fun w' => Fr (fun k => k = ga) w3 w') (fun w' h => hfr.trans h) ?_
        clear hfr
        refine wpAnyH_take (i := 11) (oi := ⟨some 49, _, _, _, _, _⟩) (v := ?vh11) rfl (by kernel_rfl) (by kernel_rfl) (by kernel_rfl) (fun _ _ _ h => h) (Or.inl ⟨by rfl, ?yh11⟩) (Fr.refl _ _) ?rh11
        case yh11 =>
          intro wq hSw
          (try dsimp only at hSw)
          first | (go_simp; done) | (go_simp; with_reducible rfl)
        try simp only [Act.put, List.setIfInBounds_toArray, List.set_cons_zero, List.set_cons_succ]
        refine wpAnyH_ready (rs := [12]) (by kernel_rfl) (by simp) ?_
        refine AllReadyH.cons (o := ⟨none, _, _, _, _, _⟩) rfl (fun K hK => ?_) AllReadyH.nil
        go_simp
        have hfr : Fr (fun k => k = ga) w3 (w3.setCell ⟨ga, k, none⟩ (.slice A3 (n + n) c3)) := Fr.setCell (S := fun k => k = ga) (Fr.refl _ _) (.inr rfl) _
        refine hK.out _ _ hfr (fun hHeld => ?_)
        clear hK K hHeld
        try simp only [Act.put, List.setIfInBounds_toArray, List.set_cons_zero, List.set_cons_succ]
        refine wpAnyH_re (S' := fun w' => Fr (fun k => k = ga) (w3.setCell ⟨ga, k, none⟩ (.slice A3 (n + n) c3)) w') (fun w' h => hfr.trans h) ?_
        clear hfr
        refine wpAnyH_done (by kernel_rfl) ?_ _
        have hwd : Below wr.heap.size wr w3 := (Below.drew (Below.refl _ _)).trans Hb3.out
        have hwz : wr.drew.heap.size = wr.heap.size := rfl
        have hh3 := (Hh.out.later hwd).set (.inr rfl) hlt S3.out (fun b o hn hA hk => by
          have := hnew b o (by omega) hA
          have := Hi.out.fld.fld.ltT
          rcases hk with hk | hk <;> omega)
        have hq : Fr (fun k => k = ga) w3 (w3.setCell ⟨ga, k, none⟩ (.slice A3 (n + n) c3)) := Fr.setCell (S := fun k => k = ga) (Fr.refl _ _) (.inr rfl) _
        have hru3 := (Hru.out.later hwd).fr hq (by show ¬ gb = ga; exact hne2) (fun b hb => .inr hb)
        have hx7 := hq.row_some ((hwd.block _ hs7).trans X7.out) (by show ¬ g7 = ga; exact hne1)
        have hxn := hq.row_some ((hwd.block _ (block_lt Xn.out)).trans Xn.out) (by show ¬ w2.heap.size = ga; omega)
        have hi3 := (Hi.out.later hwd).frNew hT hF hq (fun b hb hk => by have hk : b = ga := hk; omega)
        have Hend := Lib.hid (And.intro hh3 (And.intro hru3 (And.intro hx7 (And.intro hxn hi3))))
        clear hh3 hru3 hx7 hxn hi3 hq hwd S3 Hb3 z3 k3 fa ka kb k7 kn
        go_wp2_with fail
        go_roundw
        case rel => exact ⟨k + 1, by omega, by go_num, Hend.out.1, Hend.out.2.1, Hend.out.2.2.1, Hend.out.2.2.2.1, Hend.out.2.2.2.2⟩
        case measure => simp [intOf]; omega
      · obtain rfl : k = n := by omega
        have hR := hh.done
        have HR := Lib.hid (hR.drewN 1)
        have Hfd := Lib.hid (Hi.out.fld.drewN 1)
        clear hh hru hR
        go_wp2_with fail
        go_region_with (go_at_call 43; have hh := reduce_any F T ga k (k + k) k h2 (by omega) (by omega) (aug k (mx k l)) wr.drew Hfd.out HR.out (by omega) (by omega); refine hh.mono ?_; clear hh; rintro e w5 ⟨L, M, ld, rfl, hled, hrow5, hf5, hr5⟩; have kn5 := hr5.cell_some (show wr.drew.cell? ⟨w2.heap.size, 0, none⟩ = _ from kn) (by rintro (h | h) <;> simp at h <;> omega))
        all_goals
          have hw5 := hr5.size
          have hwz : wr.drew.heap.size = wr.heap.size := rfl
          have hi5 : InvAt w w5 F T (k : Int) (k : Int) A N cp := ⟨(Hi.out.fr.drew).andNew hr5 (fun i hi hk => by
              rcases hk with hk | hk
              · exact hk
              · omega), hf5, by omega, hr5.row_some (show wr.drew.heap[_]? = _ from Hi.out.b0) (by rintro (h | h) <;> omega), hr5.row_some (show wr.drew.heap[_]? = _ from Hi.out.b1) (by rintro (h | h) <;> omega)⟩
          have hx7 := hr5.row_some (show wr.drew.heap[_]? = _ from X7.out) (by
            have := Hi.out.fld.fld.ltT
            rintro (h | h) <;> omega)
          have hxn := hr5.row_some (show wr.drew.heap[_]? = _ from Xn.out) (by rintro (h | h) <;> omega)
          have Hx7 := Lib.hid hx7; clear hx7
          have Hxn := Lib.hid hxn; clear hxn kn5
          have Hi5 := Lib.hid hi5; clear hi5
          have Hrow5 := Lib.hid hrow5; clear hrow5
          have Hled := Lib.hid hled; clear hled
          have Hf5 := Lib.hid hf5; clear hf5
          have Hr5 := Lib.hid hr5; clear hr5 k7 kn
          by_cases hLk : L < k
          · have hd : decide ((L : Int) < (k : Int)) = true := by simp; omega
            have x0 := box0_0 Hi5.out.b1; have x1 := box0_1 Hi5.out.b1; have x2 := box0_2 Hi5.out.b1
            have y0 := box0_free Hi5.out.b1 0; have y1 := box0_free Hi5.out.b1 1; have y2 := box0_free Hi5.out.b1 2
            go_wp2_with fail
            refine bodyPost_ret (results_cell_pair Try.results23 _ _ (w.heap.size + 1) 24 _ (0, 0) _ rfl (box0_set Hi5.out.b1) Try.underlying24 rfl size_matrix) rfl ?_
            have hq := box0_fr w5 (w.heap.size + 1) 0 0 none 0 0
            exact ⟨.inl ⟨L, hLk, Hled.out.rk_aug, rfl⟩, Hi5.out.fld.fr hq (by show ¬ F = _; omega) (by show ¬ T = _; omega), Hi5.out.fr.andNew hq (fun i hi hk => by have hk : i = _ := hk; omega)⟩
          · obtain rfl : L = k := by have := Hled.out.le; omega
            have hd : decide ((L : Int) < (L : Int)) = false := by simp
            have c6 := cell_of_one Hxn.out
            have hht : Tells 44 #[.pointer (some ⟨g7, 0, none⟩), .pointer (some ⟨w2.heap.size, 0, none⟩)] L L (fun i j => M i (L + j)) w5 := fun W i j hi hj hb => by
              have hh := invc_any g7 w2.heap.size ga L _ M h2 i j hi hj W (Hrow5.out.later hb)
                ((hb.cell (World.block_lt_of_cell? w5 _ (cell_of_one Hx7.out))).trans (cell_of_one Hx7.out)) ((hb.cell (World.block_lt_of_cell? w5 _ (cell_of_one Hxn.out))).trans (cell_of_one Hxn.out))
              exact hh.mono fun e w' ⟨he, k, hk⟩ => ⟨he, hk ▸ below_drewN (Below.refl _ _) k⟩
            have hhB := build_any L L h2 h2 _ enters_inv1 _ _ _ hht
            clear hht
            go_wp2_with fail
            refine hhB.mono ?_; clear hhB; rintro e w6 ⟨v, rfl, ⟨A6, c6', rfl, hg6⟩, hb6⟩
            have I6 := Lib.hid (Hi5.out.later hb6)
            have HG6 := Lib.hid hg6; clear hg6 c6
            have x0 := box0_0 I6.out.b1; have x1 := box0_1 I6.out.b1; have x2 := box0_2 I6.out.b1
            have y0 := box0_free I6.out.b1 0; have y1 := box0_free I6.out.b1 1; have y2 := box0_free I6.out.b1 2
            go_wp2_with fail
            refine bodyPost_ret (results_cell_pair Try.results23 _ _ (w.heap.size + 1) 24 _ (0, 0) _ rfl (box0_set I6.out.b1) Try.underlying24 rfl size_matrix) rfl ?_
            have hq := box0_fr w6 (w.heap.size + 1) (L : Int) (L : Int) A6 (L * L) c6'
            exact ⟨.inr ⟨_, Hled.out.inverse, A6, c6', rfl, (HG6.out.frG hq (by omega)).lower (by omega)⟩, I6.out.fld.fr hq (by show ¬ F = _; omega) (by show ¬ T = _; omega), I6.out.fr.andNew hq (fun i hi hk => by have hk : i = _ := hk; omega)⟩
end Go.Proofs.Ytccnoflgbopjlaa
