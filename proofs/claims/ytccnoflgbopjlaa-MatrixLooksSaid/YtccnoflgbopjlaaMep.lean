/-
  Contract of the document's Pick. No condition. (Written by gen_mep.py.)
-/
import Derived.Test.YtccnoflgbopjlaaMem
import Derived.Test.YtccnoflgbopjlaaMdo
namespace Go.Proofs.Ytccnoflgbopjlaa
open Go.RowKit Go.Proofs
set_option linter.unusedVariables false

theorem allIn_get {l : List Int} {r : Int} (h : allIn l r = true) {i : Nat} (hi : i < l.length) : 0 ≤ l.getD i 0 ∧ l.getD i 0 < r := by
  rw [allIn, List.all_eq_true] at h
  have := of_decide_eq_true (h l[i] (List.getElem_mem hi))
  have e : l.getD i 0 = l[i] := by simp [hi]
  rw [e]; exact this
theorem allIn_of {l : List Int} {r : Int} (h : ∀ i, i < l.length → withinB (l.getD i 0) r = true) : allIn l r = true := by
  rw [allIn, List.all_eq_true]
  intro z hz
  obtain ⟨j, hj, rfl⟩ := List.mem_iff_getElem.1 hz
  have := h j hj
  have e : l.getD j 0 = l[j] := by simp [hj]
  rwa [e] at this
/-- What Pick makes of m and rows. -/
def PickR (m : M3) (rows : List Int) (o : M3) (x : Int) : Prop :=
  (∃ R C, m.Is R C (mx C m.l) ∧ allIn rows m.r = true ∧ o.Is rows.length C (fun i j => mx C m.l (rows.getD i 0).toNat j) ∧ x = 0) ∨ (o = M3.none ∧ x = 2 ∧ ¬ (m.ok = true ∧ fitsB rows.length = true ∧ allIn rows m.r = true))
/-- What its loop keeps. -/
structure PkIn (w0 w : World) (m : M3) (P : Option Addr) (p bm : Nat) (r c : Int) (q : Nat) (A : Option Addr) (cp : Nat) (l : List UInt8) : Prop where
  below : Below w0.heap.size w0 w
  hi : w0.heap.size + 2 ≤ bm
  b0 : w.heap[w0.heap.size]? = some (m.box P p)
  b1 : w.heap[w0.heap.size + 1]? = some box0
  v : w.heap[bm]? = some (boxM r c A q cp)
  grow : Grow w (bm + 1) A q cp (l.take q)
theorem PkIn.fr {w0 w w' : World} {m : M3} {P : Option Addr} {p bm q q' : Nat} {r c : Int} {A A' : Option Addr} {cp cp' : Nat} {l l' : List UInt8} (h : PkIn w0 w m P p bm r c q A cp l) (hf : Fr (fun k => bm ≤ k) w w') (hv : w'.heap[bm]? = some (boxM r c A' q' cp')) (hg : Grow w' (bm + 1) A' q' cp' l') (hl : l' = l.take q') : PkIn w0 w' m P p bm r c q' A' cp' l := by
  have hi := h.hi
  subst hl
  exact ⟨h.below.trans (hf.below h.below.size (fun k hk => by have hk : bm ≤ k := hk; omega)), hi, hf.row_some h.b0 (by show ¬ bm ≤ _; omega), hf.row_some h.b1 (by show ¬ bm ≤ _; omega), hv, hg⟩
theorem PkIn.later {w0 w w' : World} {m : M3} {P : Option Addr} {p bm q : Nat} {r c : Int} {A : Option Addr} {cp : Nat} {l : List UInt8} (h : PkIn w0 w m P p bm r c q A cp l) (hb : Below w.heap.size w w') : PkIn w0 w' m P p bm r c q A cp l :=
  ⟨h.below.trans (hb.mono h.below.size), h.hi, (hb.block _ (block_lt h.b0)).trans h.b0, (hb.block _ (block_lt h.b1)).trans h.b1, (hb.block _ (block_lt h.v)).trans h.v, h.grow.below hb⟩
theorem tabL_more {n C : Nat} {f : Mx} {i : Nat} (hi : i < n) : (tabL n C f).take (i * C) ++ rowL C (f i) = (tabL n C f).take (i * C + C) := by
  rw [List.take_add, rowL_mx (R := n) (by rw [tabL_length]) hi]
  congr 1
  exact (rowL_congr fun k hk => mx_tabL f hi hk).symm
theorem retn_none {R : M3 → Int → Prop} {x : Int} {w w' : World} (hR : R M3.none x) (hb : Below w.heap.size w w') : RetN R w (.returned (NoMx x)) w' := ⟨⟨M3.none, none, 0, x, rfl, Grow.nil _ _, hR⟩, hb⟩

set_option maxRecDepth 20000 in
set_option maxHeartbeats 3200000 in
theorem rpick_no (m : M3) (P : Option Addr) (p : Nat) (A : Option Addr) (cp : Nat) (rows : List Int) (w : World) (s1 : Sl w 1 P m.l.length p (cells m.l)) (s2 : Sl w 1 A rows.length cp (icells rows)) (hno : ¬ (m.ok = true ∧ fitsB rows.length = true)) :
    Calls Try.prog 12 #[.agg #[.int .i64 m.r, .int .i64 m.c, .slice P m.l.length p], .slice A rows.length cp] w (RetN (PickR m rows) w) := by
  have hlim := s1.lim
  have hn := s2.lim
  unfold maxLen at hn
  have hb0 : Below w.heap.size w ((w.alloc (m.box P p)).alloc box0) := ((Below.refl _ _).alloc (Nat.le_refl _) _).alloc (by simp) _
  have X0 := Lib.hid (alloc2_new w (m.box P p) box0)
  have hR : PickR m rows M3.none 2 := .inr ⟨rfl, rfl, fun h => hno ⟨h.1, h.2.1⟩⟩
  have HR := Lib.hid hR; clear hR
  have hhR := rright_any m.r m.c P m.l.length p hlim ((w.alloc (m.box P p)).alloc box0)
  by_cases h1 : m.ok = true
  · have h2 : ¬ (1 ≤ rows.length ∧ rows.length ≤ 255) := fun h => hno ⟨h1, fitsB_t (by omega)⟩
    rw [show rightB m.r m.c m.l.length = true from h1] at hhR
    clear hno h1
    by_cases h3 : rows.length < 1
    · have d1 : decide ((rows.length : Int) < 1) = true := by simp only [decide_eq_true_eq]; omega
      clear h2 h3
      go_enter Try.func12, Try.ntmps12
      go_wp2_with fail
      refine hhR.mono ?_; clear hhR; rintro e w2 ⟨rfl, hb⟩
      have X2 := Lib.hid ((hb.block _ (block_lt X0.out)).trans X0.out)
      have x0 := box0_0 X2.out; have x1 := box0_1 X2.out; have x2 := box0_2 X2.out
      have y0 := box0_free X2.out 0; have y1 := box0_free X2.out 1; have y2 := box0_free X2.out 2
      have Hb := Lib.hid (hb0.trans (hb.mono hb0.size)); clear hb hb0
      go_wp2_with fail
      refine bodyPost_ret (results_cell_pair Try.results12 _ _ (w.heap.size + 1) 24 _ (0, 0) _ rfl (box0_set X2.out) Try.underlying24 rfl size_matrix) rfl ?_
      exact retn_none HR.out (Hb.out.trans ((box0_fr w2 (w.heap.size + 1) 0 0 none 0 0).below Hb.out.size (fun k hk => by have hk : k = _ := hk; omega)))
    · have d1 : decide ((rows.length : Int) < 1) = false := by simp only [decide_eq_false_iff_not]; omega
      have d2 : decide ((rows.length : Int) > 255) = true := by simp only [decide_eq_true_eq]; omega
      clear h2 h3
      go_enter Try.func12, Try.ntmps12
      go_wp2_with fail
      refine hhR.mono ?_; clear hhR; rintro e w2 ⟨rfl, hb⟩
      have X2 := Lib.hid ((hb.block _ (block_lt X0.out)).trans X0.out)
      have x0 := box0_0 X2.out; have x1 := box0_1 X2.out; have x2 := box0_2 X2.out
      have y0 := box0_free X2.out 0; have y1 := box0_free X2.out 1; have y2 := box0_free X2.out 2
      have Hb := Lib.hid (hb0.trans (hb.mono hb0.size)); clear hb hb0
      go_wp2_with fail
      refine bodyPost_ret (results_cell_pair Try.results12 _ _ (w.heap.size + 1) 24 _ (0, 0) _ rfl (box0_set X2.out) Try.underlying24 rfl size_matrix) rfl ?_
      exact retn_none HR.out (Hb.out.trans ((box0_fr w2 (w.heap.size + 1) 0 0 none 0 0).below Hb.out.size (fun k hk => by have hk : k = _ := hk; omega)))
  · have hrf : rightB m.r m.c m.l.length = false := Bool.eq_false_iff.2 h1
    rw [hrf] at hhR
    clear hrf
    clear hno h1
    go_enter Try.func12, Try.ntmps12
    go_wp2_with fail
    refine hhR.mono ?_; clear hhR; rintro e w2 ⟨rfl, hb⟩
    have X2 := Lib.hid ((hb.block _ (block_lt X0.out)).trans X0.out)
    have x0 := box0_0 X2.out; have x1 := box0_1 X2.out; have x2 := box0_2 X2.out
    have y0 := box0_free X2.out 0; have y1 := box0_free X2.out 1; have y2 := box0_free X2.out 2
    have Hb := Lib.hid (hb0.trans (hb.mono hb0.size)); clear hb hb0
    go_wp2_with fail
    refine bodyPost_ret (results_cell_pair Try.results12 _ _ (w.heap.size + 1) 24 _ (0, 0) _ rfl (box0_set X2.out) Try.underlying24 rfl size_matrix) rfl ?_
    exact retn_none HR.out (Hb.out.trans ((box0_fr w2 (w.heap.size + 1) 0 0 none 0 0).below Hb.out.size (fun k hk => by have hk : k = _ := hk; omega)))

set_option maxRecDepth 20000 in
set_option maxHeartbeats 6400000 in
theorem rpick_go (m : M3) (P : Option Addr) (p : Nat) (A : Option Addr) (cp : Nat) (rows : List Int) (w : World) (s1 : Sl w 1 P m.l.length p (cells m.l)) (s2 : Sl w 1 A rows.length cp (icells rows)) (R C : Nat) (hM : m.Is R C (mx C m.l)) (hn : 1 ≤ rows.length ∧ rows.length ≤ 255) :
    Calls Try.prog 12 #[.agg #[.int .i64 m.r, .int .i64 m.c, .slice P m.l.length p], .slice A rows.length cp] w (RetN (PickR m rows) w) := by
  have hlim := s1.lim
  have hRC : rows.length * C ≤ 255 * 255 := Nat.mul_le_mul hn.2 hM.c2
  have hb0 : Below w.heap.size w ((w.alloc (m.box P p)).alloc box0) := ((Below.refl _ _).alloc (Nat.le_refl _) _).alloc (by simp) _
  have X0 := Lib.hid (alloc2_new w (m.box P p) box0)
  have Y0 := Lib.hid (alloc2_old w (m.box P p) box0)
  have hhR := rright_any m.r m.c P m.l.length p hlim ((w.alloc (m.box P p)).alloc box0)
  rw [show rightB m.r m.c m.l.length = true from hM.ok] at hhR
  have Hg := Lib.hid (And.intro hM.r hM.c)
  have c1 := hM.c1; have c2 := hM.c2
  have HM := Lib.hid hM; clear hM
  have HS10 := Lib.hid s1; clear s1
  have HS20 := Lib.hid s2; clear s2
  obtain ⟨l, hl⟩ : ∃ l, l = tabL rows.length C (fun i j => mx C m.l (rows.getD i 0).toNat j) := ⟨_, rfl⟩
  have Hl := Lib.hid hl; clear hl
  have d1 : decide ((rows.length : Int) < 1) = false := by simp only [decide_eq_false_iff_not]; omega
  have d2 : decide ((rows.length : Int) > 255) = false := by simp only [decide_eq_false_iff_not]; omega
  go_enter Try.func12, Try.ntmps12
  go_wp2_with fail
  refine hhR.mono ?_; clear hhR; rintro e w2 ⟨rfl, hb⟩
  have hz0 : ((w.alloc (m.box P p)).alloc box0).heap.size = w.heap.size + 2 := by simp
  have hz2 : w.heap.size + 2 ≤ w2.heap.size := by have := hb.size; omega
  have X2 := Lib.hid ((hb.block _ (block_lt X0.out)).trans X0.out)
  have Y2 := Lib.hid ((hb.block _ (block_lt Y0.out)).trans Y0.out)
  have Hb := Lib.hid (hb0.trans (hb.mono hb0.size)); clear hb hb0 hz0
  have m1 := boxM_1 Y2.out
  have HP0 := Lib.hid (show PkIn w (w2.alloc (boxM (rows.length : Int) m.c none 0 0)) m P p w2.heap.size (rows.length : Int) m.c 0 none 0 l from
    ⟨Hb.out.alloc Hb.out.size _, hz2, (Below.heap_alloc _ _ _ (by omega)).trans Y2.out, (Below.heap_alloc _ _ _ (by omega)).trans X2.out, heap_alloc_new w2 _, Grow.nil _ _⟩)
  go_wp2_with fail
  obtain ⟨bm, hbm⟩ : ∃ bm, bm = w2.heap.size := ⟨_, rfl⟩
  rw [← hbm] at HP0 ⊢
  have Hbm := Lib.hid hbm; clear hbm hz2 m1
  go_loopw [7] (fun i wr => ∃ (i' : Nat) (A' : Option Addr) (c' : Nat), i' ≤ rows.length ∧ i = .int .i64 (i' : Int) ∧ PkIn w wr m P p bm (rows.length : Int) m.c (i' * C) A' c' l ∧ ∀ a, a < i' → withinB (rows.getD a 0) m.r = true) (fun i _ => rows.length - (intOf i).toNat)
  case atStart => exact ⟨0, none, 0, by omega, rfl, by rw [Nat.zero_mul]; exact HP0.out, fun a ha => absurd ha (by omega)⟩
  case round =>
    obtain ⟨i, A', c', hi', rfl, hp, hal⟩ := hrel
    have Hal := Lib.hid hal; clear hal
    have hbi := hp.hi
    have HP := Lib.hid hp; clear hp
    by_cases hi : i < rows.length
    · obtain ⟨gb, o1, rfl, hc⟩ := (HS20.out.below HP.out.below (Nat.le_refl _)).at_ hi
      have hzz : rows.getD i 0 = rows[i] := by simp [hi]
      have hcell := hc i _ (icells_get rows i hi)
      rw [← hzz] at hcell
      have hb1lt : gb < w.heap.size := HS20.out.lt (by decide) (by omega) rfl
      obtain ⟨z, hz⟩ : ∃ z, z = rows.getD i 0 := ⟨_, rfl⟩
      rw [← hz] at hcell
      have Hz := Lib.hid hz; clear hz hzz hc
      have m0 := boxM_0 HP.out.b0
      by_cases hw : withinB z m.r = true
      · have hw2 := of_decide_eq_true hw
        obtain ⟨I, rfl⟩ := Int.eq_ofNat_of_zero_le hw2.1
        have hIR : I < R := by have := Hg.out.1; omega
        have e1 : decide ((I : Int) < 0) = false := by simp only [decide_eq_false_iff_not]; omega
        have e2 : decide ((I : Int) ≥ m.r) = false := by simp only [decide_eq_false_iff_not]; omega
        have Hin := Lib.hid (show withinB (rows.getD i 0) m.r = true by rw [← Hz.out]; exact hw)
        have HI := Lib.hid hIR; clear hIR hw hw2
        go_wp2_with fail
        go_quiet (fail)
        obtain ⟨wy, hwy⟩ : ∃ wy, wy = wr.drewN nq := ⟨_, rfl⟩
        have hby : Below wr.heap.size wr wy := by rw [hwy]; exact below_drewN (Below.refl _ _) nq
        have hcy := (hby.cell (World.block_lt_of_cell? wr _ hcell)).trans hcell
        have HC := Lib.hid hcy
        have HPk := Lib.hid (HP.out.later hby)
        rw [← hwy]
        clear hwy hby hcell m0 HP
        have b0 := boxM_0 HPk.out.b0
        have b1' := boxM_1 HPk.out.b0
        have b2 := boxM_2 HPk.out.b0
        have b1 := b1'
        obtain ⟨q, hq⟩ : ∃ q, q = i * C := ⟨_, rfl⟩
        have hqn : q + C ≤ rows.length * C := by
          have : (i + 1) * C ≤ rows.length * C := Nat.mul_le_mul_right C hi
          rw [Nat.add_mul, Nat.one_mul] at this
          omega
        have Hsn := Lib.hid (show l.take q ++ rowL C (mx C m.l I) = l.take (q + C) by
          rw [hq, Hl.out, ← tabL_more hi]
          congr 1
          rw [← Hz.out, Int.toNat_natCast])
        rw [← hq] at HPk
        have Hq := Lib.hid hq; clear hq
        have hbml := block_lt HPk.out.v
        have BK0 := Lib.hid (show wy.drew.heap[bm]? = _ from HPk.out.v)
        have HS1 := Lib.hid (HS10.out.below HPk.out.below (Nat.le_refl _))
        have HGr := Lib.hid (show Grow wy.drew (bm + 1) A' q c' (l.take q) from HPk.out.grow.below (Below.drew (Below.refl _ _)))
        go_wp2_with fail
        refine wp_region_held_drew (S := fun w' => Fr (fun k => bm ≤ k) wy w') (by kernel_rfl) (Fr.drew (Fr.refl _ _)) (fun hHeld => ?_)
        clear hHeld
        have hHeld : Fr (fun k => bm ≤ k) wy wy.drew := Fr.drew (Fr.refl _ _)
        have hz_0 : wy.heap.size ≤ wy.drew.heap.size := Nat.le_refl _
        obtain ⟨v_1, hw⟩ : ∃ v_1, v_1 = wy.drew := ⟨_, rfl⟩
        rw [← hw] at hHeld hz_0 BK0 HGr ⊢
        clear hw
        refine wpAnyH_take (i := 0) (oi := ⟨some 48, _, _, _, _, _⟩) (v := ?vg0_2) rfl (by kernel_rfl) (by kernel_rfl) (by kernel_rfl) (fun _ _ _ h => h) (Or.inl ⟨by rfl, ?yg0_2⟩) hHeld ?rg0_2
        case yg0_2 =>
          intro wq hSw
          (try dsimp only at hSw)
          first | (go_simp; done) | (go_simp; with_reducible rfl)
        try simp only [Act.put, List.setIfInBounds_toArray, List.set_cons_zero, List.set_cons_succ]
        refine wpAnyH_take (i := 2) (oi := ⟨some 50, _, _, _, _, _⟩) (v := ?vg2_3) rfl (by kernel_rfl) (by kernel_rfl) (by kernel_rfl) (fun _ _ _ h => h) (Or.inl ⟨by rfl, ?yg2_3⟩) hHeld ?rg2_3
        case yg2_3 =>
          intro wq hSw
          (try dsimp only at hSw)
          have q0 := hSw.cell_some b0 (by show ¬ bm ≤ w.heap.size; omega)
          have q1 := hSw.cell_some b1 (by show ¬ bm ≤ w.heap.size; omega)
          have q2 := hSw.cell_some b2 (by show ¬ bm ≤ w.heap.size; omega)
          first | (go_simp; done) | (go_simp; with_reducible rfl)
        try simp only [Act.put, List.setIfInBounds_toArray, List.set_cons_zero, List.set_cons_succ]
        refine wpAnyH_take (i := 3) (oi := ⟨some 51, _, _, _, _, _⟩) (v := ?vg3_4) rfl (by kernel_rfl) (by kernel_rfl) (by kernel_rfl) (fun _ _ _ h => h) (Or.inl ⟨by rfl, ?yg3_4⟩) hHeld ?rg3_4
        case yg3_4 =>
          intro wq hSw
          (try dsimp only at hSw)
          first | (go_simp; done) | (go_simp; with_reducible rfl)
        try simp only [Act.put, List.setIfInBounds_toArray, List.set_cons_zero, List.set_cons_succ]
        refine wpAnyH_take (i := 4) (oi := ⟨some 52, _, _, _, _, _⟩) (v := ?vg4_5) rfl (by kernel_rfl) (by kernel_rfl) (by kernel_rfl) (fun _ _ _ h => h) (Or.inl ⟨by rfl, ?yg4_5⟩) hHeld ?rg4_5
        case yg4_5 =>
          intro wq hSw
          (try dsimp only at hSw)
          first | (go_simp; done) | (go_simp; with_reducible rfl)
        try simp only [Act.put, List.setIfInBounds_toArray, List.set_cons_zero, List.set_cons_succ]
        refine wpAnyH_take (i := 5) (oi := ⟨some 53, _, _, _, _, _⟩) (v := ?vg5_6) rfl (by kernel_rfl) (by kernel_rfl) (by kernel_rfl) (fun _ _ _ h => h) (Or.inl ⟨by rfl, ?yg5_6⟩) hHeld ?rg5_6
        case yg5_6 =>
          intro wq hSw
          (try dsimp only at hSw)
          have hi0 : (0 : Int) ≤ (i : Int) := by omega
          have hi1 : (i : Int) < (rows.length : Int) := by omega
          first | (go_simp; done) | (go_simp; with_reducible rfl)
        try simp only [Act.put, List.setIfInBounds_toArray, List.set_cons_zero, List.set_cons_succ]
        refine wpAnyH_take (i := 6) (oi := ⟨some 54, _, _, _, _, _⟩) (v := ?vg6_7) rfl (by kernel_rfl) (by kernel_rfl) (by kernel_rfl) (fun _ _ _ h => h) (Or.inl ⟨by rfl, ?yg6_7⟩) hHeld ?rg6_7
        case yg6_7 =>
          intro wq hSw
          (try dsimp only at hSw)
          have q0 := hSw.cell_some HC.out (by show ¬ bm ≤ gb; omega)
          first | (go_simp; done) | (go_simp; with_reducible rfl)
        try simp only [Act.put, List.setIfInBounds_toArray, List.set_cons_zero, List.set_cons_succ]
        refine wpAnyH_ready (rs := [1, 7]) (by kernel_rfl) (by simp) ?_
        refine AllReadyH.cons (o := ⟨some 49, _, _, _, _, _⟩) rfl (fun K hK => ?_) (AllReadyH.cons (o := ⟨some 55, _, _, _, _, _⟩) rfl (fun K hK => ?_) (AllReadyH.nil))
        · have qq := boxM_2 BK0.out
          go_simp
          refine hK.out _ _ hHeld (fun _ => ?_)
          clear hK K
          try simp only [Act.put, List.setIfInBounds_toArray, List.set_cons_zero, List.set_cons_succ]
          refine wpAnyH_ready (rs := [7]) (by kernel_rfl) (by simp) ?_
          refine AllReadyH.cons (o := ⟨some 55, _, _, _, _, _⟩) rfl (fun K hK => ?_) (AllReadyH.nil)
          go_simp
          have hh := rrow_any R C I P m.l.length p m.l HM.out.r2 HM.out.c1 HM.out.c2 HM.out.len HI.out v_1 (HS1.out.fr hHeld (fun b o hn hA hk => by have hk : bm ≤ b := hk; have := HS10.out.lt (by decide) hn hA; omega))
          rw [← Hg.out.1, ← Hg.out.2, rowL_mx HM.out.len HI.out] at hh
          refine hh.mono ?_; clear hh; rintro e v_8 ⟨A4, c4, rfl, hs4, hbN⟩
          have HX := Lib.hid hs4; clear hs4
          have hfN : Fr (fun k => bm ≤ k) v_1 v_8 := Fr.of_below hbN
          have bk_9 := Lib.hid ((hbN.block _ (block_lt BK0.out)).trans BK0.out)
          have HGr6 := Lib.hid (HGr.out.below hbN)
          clear hbN
          go_wp2_with fail
          have hHeld := hHeld.trans hfN
          have hz_10 := hfN.size
          refine hK.out _ _ hHeld (fun _ => ?_)
          clear hK K hfN
          try simp only [Act.put, List.setIfInBounds_toArray, List.set_cons_zero, List.set_cons_succ]
          refine wpAnyH_ready (rs := [8]) (by kernel_rfl) (by simp) ?_
          refine AllReadyH.cons (o := ⟨some 56, _, _, _, _, _⟩) rfl (fun K hK => ?_) (AllReadyH.nil)
          have hbml := block_lt bk_9.out
          refine step_append_b (B := bm + 1) rfl (.tmp 49) (.tmp 55) rfl rfl HGr6.out.own (by omega) A4 C c4 (rowL C (mx C m.l I)) rfl HX.out (by omega) ?_
          intro A3 c3 v_11 ho3 hb3 hrow3
          have hfN : Fr (fun k => bm ≤ k) v_8 v_11 := Fr.of_belowAt hb3 (fun k hk => by show bm ≤ k; omega)
          have HG3 := Lib.hid (show Grow v_11 (bm + 1) A3 (q + C) c3 (l.take q ++ rowL C (mx C m.l I)) from ⟨by rw [cells_append]; exact ho3, fun _ => by rw [cells_append]; exact hrow3 (by omega)⟩)
          have bk_12 := Lib.hid ((hb3.block bm (by omega)).trans bk_9.out)
          clear ho3 hrow3 hb3 HX
          have hHeld := hHeld.trans hfN
          have hz_13 := hfN.size
          refine hK.out _ _ hHeld (fun _ => ?_)
          clear hK K hfN
          try simp only [Act.put, List.setIfInBounds_toArray, List.set_cons_zero, List.set_cons_succ]
          refine wpAnyH_take (i := 9) (oi := ⟨some 57, _, _, _, _, _⟩) (v := ?vg9_14) rfl (by kernel_rfl) (by kernel_rfl) (by kernel_rfl) (fun _ _ _ h => h) (Or.inl ⟨by rfl, ?yg9_14⟩) hHeld ?rg9_14
          case yg9_14 =>
            intro wq hSw
            (try dsimp only at hSw)
            first | (go_simp; done) | (go_simp; with_reducible rfl)
          try simp only [Act.put, List.setIfInBounds_toArray, List.set_cons_zero, List.set_cons_succ]
          refine wpAnyH_ready (rs := [10]) (by kernel_rfl) (by simp) ?_
          refine AllReadyH.cons (o := ⟨none, _, _, _, _, _⟩) rfl (fun K hK => ?_) (AllReadyH.nil)
          have qq := boxM_2 bk_12.out
          have uu := boxM_free bk_12.out 2
          go_simp
          have hfN : Fr (fun k => bm ≤ k) v_11 (v_11.setCell ⟨bm, 2, none⟩ (.slice A3 (q + C) c3)) := Fr.setCell (S := fun k => bm ≤ k) (Fr.refl _ _) (.inr (Nat.le_refl bm)) _
          have hHeld := hHeld.trans hfN
          have hz_15 := hfN.size
          refine hK.out _ _ hHeld (fun _ => ?_)
          clear hK K hfN
          try simp only [Act.put, List.setIfInBounds_toArray, List.set_cons_zero, List.set_cons_succ]
          refine wpAnyH_done (by kernel_rfl) ?_ _
          have hend := HPk.out.fr hHeld (by rw [heap_setCell_same _ _ _ _ _ _ bk_12.out]; rfl) (HG3.out.frG (Fr.setCell (S := fun k => k = bm) (Fr.refl _ _) (.inr rfl) _) (Nat.lt_succ_self bm)) Hsn.out
          have Hend := Lib.hid hend
          clear hend HG3 hHeld
          go_wp2_with fail
          go_roundw
          case rel => exact ⟨i + 1, A3, c3, by omega, by go_num, by rw [Nat.add_mul, Nat.one_mul, ← Hq.out]; exact Hend.out, fun a ha => by
              by_cases hai : a = i
              · rw [hai]; exact Hin.out
              · exact Hal.out a (by omega)⟩
          case measure => simp [intOf]; omega
        · go_simp
          have hh := rrow_any R C I P m.l.length p m.l HM.out.r2 HM.out.c1 HM.out.c2 HM.out.len HI.out v_1 (HS1.out.fr hHeld (fun b o hn hA hk => by have hk : bm ≤ b := hk; have := HS10.out.lt (by decide) hn hA; omega))
          rw [← Hg.out.1, ← Hg.out.2, rowL_mx HM.out.len HI.out] at hh
          refine hh.mono ?_; clear hh; rintro e v_16 ⟨A4, c4, rfl, hs4, hbN⟩
          have HX := Lib.hid hs4; clear hs4
          have hfN : Fr (fun k => bm ≤ k) v_1 v_16 := Fr.of_below hbN
          have bk_17 := Lib.hid ((hbN.block _ (block_lt BK0.out)).trans BK0.out)
          have HGr6 := Lib.hid (HGr.out.below hbN)
          clear hbN
          go_wp2_with fail
          have hHeld := hHeld.trans hfN
          have hz_18 := hfN.size
          refine hK.out _ _ hHeld (fun _ => ?_)
          clear hK K hfN
          try simp only [Act.put, List.setIfInBounds_toArray, List.set_cons_zero, List.set_cons_succ]
          refine wpAnyH_ready (rs := [1]) (by kernel_rfl) (by simp) ?_
          refine AllReadyH.cons (o := ⟨some 49, _, _, _, _, _⟩) rfl (fun K hK => ?_) (AllReadyH.nil)
          have qq := boxM_2 bk_17.out
          go_simp
          refine hK.out _ _ hHeld (fun _ => ?_)
          clear hK K
          try simp only [Act.put, List.setIfInBounds_toArray, List.set_cons_zero, List.set_cons_succ]
          refine wpAnyH_ready (rs := [8]) (by kernel_rfl) (by simp) ?_
          refine AllReadyH.cons (o := ⟨some 56, _, _, _, _, _⟩) rfl (fun K hK => ?_) (AllReadyH.nil)
          have hbml := block_lt bk_17.out
          refine step_append_b (B := bm + 1) rfl (.tmp 49) (.tmp 55) rfl rfl HGr6.out.own (by omega) A4 C c4 (rowL C (mx C m.l I)) rfl HX.out (by omega) ?_
          intro A3 c3 v_19 ho3 hb3 hrow3
          have hfN : Fr (fun k => bm ≤ k) v_16 v_19 := Fr.of_belowAt hb3 (fun k hk => by show bm ≤ k; omega)
          have HG3 := Lib.hid (show Grow v_19 (bm + 1) A3 (q + C) c3 (l.take q ++ rowL C (mx C m.l I)) from ⟨by rw [cells_append]; exact ho3, fun _ => by rw [cells_append]; exact hrow3 (by omega)⟩)
          have bk_20 := Lib.hid ((hb3.block bm (by omega)).trans bk_17.out)
          clear ho3 hrow3 hb3 HX
          have hHeld := hHeld.trans hfN
          have hz_21 := hfN.size
          refine hK.out _ _ hHeld (fun _ => ?_)
          clear hK K hfN
          try simp only [Act.put, List.setIfInBounds_toArray, List.set_cons_zero, List.set_cons_succ]
          refine wpAnyH_take (i := 9) (oi := ⟨some 57, _, _, _, _, _⟩) (v := ?vg9_22) rfl (by kernel_rfl) (by kernel_rfl) (by kernel_rfl) (fun _ _ _ h => h) (Or.inl ⟨by rfl, ?yg9_22⟩) hHeld ?rg9_22
          case yg9_22 =>
            intro wq hSw
            (try dsimp only at hSw)
            first | (go_simp; done) | (go_simp; with_reducible rfl)
          try simp only [Act.put, List.setIfInBounds_toArray, List.set_cons_zero, List.set_cons_succ]
          refine wpAnyH_ready (rs := [10]) (by kernel_rfl) (by simp) ?_
          refine AllReadyH.cons (o := ⟨none, _, _, _, _, _⟩) rfl (fun K hK => ?_) (AllReadyH.nil)
          have qq := boxM_2 bk_20.out
          have uu := boxM_free bk_20.out 2
          go_simp
          have hfN : Fr (fun k => bm ≤ k) v_19 (v_19.setCell ⟨bm, 2, none⟩ (.slice A3 (q + C) c3)) := Fr.setCell (S := fun k => bm ≤ k) (Fr.refl _ _) (.inr (Nat.le_refl bm)) _
          have hHeld := hHeld.trans hfN
          have hz_23 := hfN.size
          refine hK.out _ _ hHeld (fun _ => ?_)
          clear hK K hfN
          try simp only [Act.put, List.setIfInBounds_toArray, List.set_cons_zero, List.set_cons_succ]
          refine wpAnyH_done (by kernel_rfl) ?_ _
          have hend := HPk.out.fr hHeld (by rw [heap_setCell_same _ _ _ _ _ _ bk_20.out]; rfl) (HG3.out.frG (Fr.setCell (S := fun k => k = bm) (Fr.refl _ _) (.inr rfl) _) (Nat.lt_succ_self bm)) Hsn.out
          have Hend := Lib.hid hend
          clear hend HG3 hHeld
          go_wp2_with fail
          go_roundw
          case rel => exact ⟨i + 1, A3, c3, by omega, by go_num, by rw [Nat.add_mul, Nat.one_mul, ← Hq.out]; exact Hend.out, fun a ha => by
              by_cases hai : a = i
              · rw [hai]; exact Hin.out
              · exact Hal.out a (by omega)⟩
          case measure => simp [intOf]; omega
      · have hno : PickR m rows M3.none 2 := .inr ⟨rfl, rfl, fun h => hw (by rw [Hz.out]; exact withinB_t (allIn_get h.2.2 hi))⟩
        have HN := Lib.hid hno; clear hno
        have hw2 : ¬ (0 ≤ z ∧ z < m.r) := fun h => hw (withinB_t h)
        clear hw
        have x0 := box0_0 HP.out.b1; have x1 := box0_1 HP.out.b1; have x2 := box0_2 HP.out.b1
        have y0 := box0_free HP.out.b1 0; have y1 := box0_free HP.out.b1 1; have y2 := box0_free HP.out.b1 2
        by_cases hz0 : z < 0
        · have e1 : decide (z < 0) = true := by simpa using hz0
          clear hw2 hz0
          go_wp2_with fail
          go_quiet (fail)
          go_wp2_with fail
          refine bodyPost_ret (results_cell_pair Try.results12 _ _ (w.heap.size + 1) 24 _ (0, 0) _ rfl (box0_set (w := wr.drewN nq) HP.out.b1) Try.underlying24 rfl size_matrix) rfl ?_
          exact retn_none HN.out ((below_drewN HP.out.below nq).trans ((box0_fr (wr.drewN nq) (w.heap.size + 1) 0 0 none 0 0).below HP.out.below.size (fun k hk => by have hk : k = _ := hk; omega)))
        · have e1 : decide (z < 0) = false := by simpa using hz0
          have e2 : decide (z ≥ m.r) = true := by simp only [decide_eq_true_eq]; omega
          clear hw2 hz0
          go_wp2_with fail
          go_quiet (fail)
          go_wp2_with fail
          refine bodyPost_ret (results_cell_pair Try.results12 _ _ (w.heap.size + 1) 24 _ (0, 0) _ rfl (box0_set (w := wr.drewN nq) HP.out.b1) Try.underlying24 rfl size_matrix) rfl ?_
          exact retn_none HN.out ((below_drewN HP.out.below nq).trans ((box0_fr (wr.drewN nq) (w.heap.size + 1) 0 0 none 0 0).below HP.out.below.size (fun k hk => by have hk : k = _ := hk; omega)))
    · obtain rfl : i = rows.length := by omega
      have m0 := boxM_0 HP.out.v; have m1 := boxM_1 HP.out.v; have m2 := boxM_2 HP.out.v
      have x0 := box0_0 HP.out.b1; have x1 := box0_1 HP.out.b1; have x2 := box0_2 HP.out.b1
      have y0 := box0_free HP.out.b1 0; have y1 := box0_free HP.out.b1 1; have y2 := box0_free HP.out.b1 2
      go_wp2_with fail
      refine bodyPost_ret (results_cell_pair Try.results12 _ _ (w.heap.size + 1) 24 _ (0, 0) _ rfl (box0_set HP.out.b1) Try.underlying24 rfl size_matrix) rfl ?_
      have hq := box0_fr wr (w.heap.size + 1) (rows.length : Int) m.c A' (rows.length * C) c'
      have hgr := (HP.out.grow.frG hq (by omega)).lower (B' := w.heap.size) (by omega)
      rw [List.take_of_length_le (by rw [Hl.out, tabL_length]; exact Nat.le_refl _)] at hgr
      refine ⟨⟨M3.of rows.length C (fun i j => mx C m.l (rows.getD i 0).toNat j), A', c', 0, ?_, ?_, .inl ⟨R, C, HM.out, allIn_of Hal.out, M3.is_of hn.1 hn.2 c1 c2, rfl⟩⟩, HP.out.below.trans (hq.below HP.out.below.size (fun k hk => by have hk : k = w.heap.size + 1 := hk; omega))⟩
      · show Ending.returned _ = Ending.returned (.tuple #[.agg #[.int .i64 (rows.length : Int), .int .i64 (C : Int), .slice A' (tabL rows.length C (fun i j => mx C m.l (rows.getD i 0).toNat j)).length c'], .int .i64 0])
        rw [tabL_length, Hg.out.2]
        rfl
      · show Grow _ _ A' (tabL rows.length C (fun i j => mx C m.l (rows.getD i 0).toNat j)).length c' (tabL rows.length C (fun i j => mx C m.l (rows.getD i 0).toNat j))
        rw [tabL_length, ← Hl.out]
        exact hgr
end Go.Proofs.Ytccnoflgbopjlaa
