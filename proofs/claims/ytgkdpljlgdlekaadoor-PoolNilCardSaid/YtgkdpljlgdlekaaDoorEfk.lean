/-
  PoolNil returns true, whatever its argument. Condition: the table reads as the row lists it ('Tz'). (Written by gen_efk.py.)
-/
import Derived.Test.YtgkdpljlgdlekaaDoorEfj
namespace Go.Proofs.YtgkdpljlgdlekaaDoor
open Go.RowKit Go.Proofs
set_option linter.unusedVariables false
set_option maxRecDepth 20000
set_option maxHeartbeats 3200000

theorem poolNil_walk (a : At14) (W : World) (h : a.Ok W) (hN : Tz W) :
    Calls Tryd.prog 4 #[.agg a.vals.toArray] W fun e w' => e = .returned (.bool true) ∧ Below W.heap.size W w' := by
  obtain ⟨kind, n, L, LA, lc, e0⟩ := a
  have n1 := h.n1
  have n2 := h.n2
  have hz := fun z hz => (h.z z hz).2
  have hsl := h.L
  dsimp only at n1 n2 hz hsl
  obtain ⟨q, hq⟩ : ∃ q, q = L.length := ⟨_, rfl⟩
  show Calls Tryd.prog _ #[.agg #[.int .i64 kind, .int .i64 n, .slice LA L.length lc, .int .u64 (e0 : Int)]] W _
  have hvals : (⟨kind, n, L, LA, lc, e0⟩ : At14).vals = [.int .i64 kind, .int .i64 n, .slice LA q lc, .int .u64 (e0 : Int)] := by rw [hq]; rfl
  rw [← hq] at hsl ⊢
  obtain ⟨wa, hwa⟩ : ∃ x, x = W.alloc (.cells #[.int .i64 kind, .int .i64 n, .slice LA q lc, .int .u64 (e0 : Int)] 30) := ⟨_, rfl⟩
  have hba : Below W.heap.size W wa := by rw [hwa]; exact (Below.refl _ _).alloc (Nat.le_refl _) _
  have hxa : wa.heap[W.heap.size]? = some (.cells #[.int .i64 kind, .int .i64 n, .slice LA q lc, .int .u64 (e0 : Int)] 30 (0, 0)) := by rw [hwa]; exact heap_alloc_new W _
  have c0 : wa.cell? ⟨W.heap.size, 0, none⟩ = some (.int .i64 kind) := by rw [cell_of_row _ _ _ _ _ _ hxa]; rfl
  have c1 : wa.cell? ⟨W.heap.size, 1, none⟩ = some (.int .i64 n) := by rw [cell_of_row _ _ _ _ _ _ hxa]; rfl
  have c2 : wa.cell? ⟨W.heap.size, 2, none⟩ = some (.slice LA q lc) := by rw [cell_of_row _ _ _ _ _ _ hxa]; rfl
  have c3 : wa.cell? ⟨W.heap.size, 3, none⟩ = some (.int .u64 (e0 : Int)) := by rw [cell_of_row _ _ _ _ _ _ hxa]; rfl
  have hbf : Below wa.heap.size wa (wa.alloc (.cells #[.int .i64 kind, .int .i64 n, .slice LA q lc, .int .u64 (e0 : Int)] 30)) := (Below.refl _ _).alloc (Nat.le_refl _) _
  have hxf := heap_alloc_new wa (.cells #[.int .i64 kind, .int .i64 n, .slice LA q lc, .int .u64 (e0 : Int)] 30)
  have hfew := few14_any (some ⟨wa.heap.size, 0, none⟩) 1 1 [⟨kind, n, L, LA, lc, e0⟩] _ ⟨rfl, Nat.le_refl _, by decide, fun i x hx => by
    obtain rfl : i = 0 := by
      have := (List.getElem?_eq_some_iff.1 hx).1
      simp at this
      omega
    obtain rfl : _ = x := by simpa using hx
    refine ⟨_, 0, rfl, fun j u hu => ?_, (h.below hba).below hbf⟩
    rw [hvals] at hu
    rw [cell_of_row _ _ _ _ _ _ hxf]
    simpa using hu⟩
  have hs1 : wa.heap.size = W.heap.size + 1 := by rw [hwa]; simp
  rw [hs1] at hfew
  clear hs1
  have HBF := Lib.hid hbf
  have HBA := Lib.hid hba
  have HN := Lib.hid hN
  have HSL := Lib.hid (hsl.below hba (Nat.le_refl _))
  have HZ := Lib.hid hz
  have HQ := Lib.hid hq.symm
  have HC1 := Lib.hid c1
  have HC2 := Lib.hid c2
  have HC3 := Lib.hid c3
  have hsz : W.heap.size < wa.heap.size := by rw [hwa]; simp
  clear h hN hz hsl hba hxa hbf hxf hvals hq n1
  subst hwa
  go_enter Tryd.func4, Tryd.ntmps4
  go_wp2_with fail
  refine hfew.mono ?_; clear hfew; rintro e w1 ⟨β, rfl, rfl, -⟩
  have HB1 := Lib.hid (HBA.out.trans (HBF.out.mono HBA.out.size))
  clear c0 c1 c2 c3
  cases β
  · have hg := gives14_any _ (HN.out.keep HB1.out)
    go_wp2_with fail
    refine hg.mono ?_; clear hg; rintro e w2 ⟨rfl, hb⟩
    have HB2 := Lib.hid (HB1.out.trans (hb.mono HB1.out.size))
    clear hb
    go_wp2_with fail
    go_ret
    exact ⟨rfl, HB2.out⟩
  · have D1 := Lib.hid ((Fr.of_below HBF.out : Fr (fun _ => False) _ _).cell_some HC1.out (fun h => h))
    have D2 := Lib.hid ((Fr.of_below HBF.out : Fr (fun _ => False) _ _).cell_some HC2.out (fun h => h))
    have D3 := Lib.hid ((Fr.of_below HBF.out : Fr (fun _ => False) _ _).cell_some HC3.out (fun h => h))
    obtain ⟨w1, hw1⟩ : ∃ x, x = (W.alloc (.cells #[.int .i64 kind, .int .i64 n, .slice LA q lc, .int .u64 (e0 : Int)] 30)).alloc (.cells #[.int .i64 kind, .int .i64 n, .slice LA q lc, .int .u64 (e0 : Int)] 30) := ⟨_, rfl⟩
    rw [← hw1] at D1 D2 D3 HB1 ⊢
    clear hw1 HBF HC1 HC2 HC3 HBA HSL hsz
    go_wp2_with fail
    go_loopw [3, 4] (fun v i wr => ∃ k : Nat, k ≤ 2 ∧ i = .int .i64 (k : Int) ∧ No14 wr v ∧ Below w1.heap.size w1 wr) (fun _ i _ => 2 - (intOf i).toNat)
    case atStart => exact ⟨0, by decide, rfl, .inl rfl, Below.refl _ _⟩
    case round =>
      obtain ⟨k, hk, rfl, hv, hb⟩ := hrel
      obtain ⟨wo, hwo⟩ : ∃ x, x = wr := ⟨_, rfl⟩
      by_cases hlt : k < 2
      · have hki : (k : Int) < 2 := by omega
        have hf1 : Fr (fun _ => False) w1 wr := Fr.of_below hb
        have E1 := hf1.cell_some D1.out (fun h => h)
        have E2 := Lib.hid (hf1.cell_some D2.out (fun h => h))
        have E3 := Lib.hid (hf1.cell_some D3.out (fun h => h))
        have ht := take_no _ n wr hv
        have hg := gens_no _ n wr hv
        have NV := Lib.hid hv
        have HB := Lib.hid hb
        clear hv hb hf1 hwo
        go_wp2_with fail
        refine ht.mono ?_; clear ht; rintro e w2 ⟨rfl, hw2⟩
        obtain rfl : wr = w2 := hw2.symm
        go_wp2_with fail
        refine hg.mono ?_; clear hg; rintro e w2 ⟨rfl, hw2⟩
        obtain rfl : wr = w2 := hw2.symm
        go_wp2_with fail
        have C1 := Lib.hid E1
        have C2 := Lib.hid E2.out
        have C3 := Lib.hid E3.out
        clear E1
        have BL := Lib.hid (Below.drew (Below.refl wr.heap.size wr))
        refine wp_region_held_drew (S := fun w' => Fr (fun _ => False) wr.drew w') (by kernel_rfl) (Fr.refl _ _) (fun hHeld => ?_)
        clear hHeld
        refine wpAnyH_take (i := 0) (oi := ⟨some 32, _, _, _, _, _⟩) (v := ?vn0) rfl (by kernel_rfl) (by kernel_rfl) (by kernel_rfl) (fun _ _ _ h => h) (Or.inl ⟨by rfl, ?yn0⟩) (Fr.refl _ _) ?rn0
        case yn0 =>
          intro wq hSw
          (try dsimp only at hSw)
          first | (go_simp; done) | (go_simp; with_reducible rfl)
        try simp only [Act.put, List.setIfInBounds_toArray, List.set_cons_zero, List.set_cons_succ]
        refine wpAnyH_take (i := 1) (oi := ⟨some 33, _, _, _, _, _⟩) (v := ?vn1) rfl (by kernel_rfl) (by kernel_rfl) (by kernel_rfl) (fun _ _ _ h => h) (Or.inl ⟨by rfl, ?yn1⟩) (Fr.refl _ _) ?rn1
        case yn1 =>
          intro wq hSw
          (try dsimp only at hSw)
          first | (go_simp; done) | (go_simp; with_reducible rfl)
        try simp only [Act.put, List.setIfInBounds_toArray, List.set_cons_zero, List.set_cons_succ]
        refine wpAnyH_take (i := 2) (oi := ⟨some 34, _, _, _, _, _⟩) (v := ?vn2) rfl (by kernel_rfl) (by kernel_rfl) (by kernel_rfl) (fun _ _ _ h => h) (Or.inl ⟨by rfl, ?yn2⟩) (Fr.refl _ _) ?rn2
        case yn2 =>
          intro wq hSw
          (try dsimp only at hSw)
          first | (go_simp; done) | (go_simp; with_reducible rfl)
        try simp only [Act.put, List.setIfInBounds_toArray, List.set_cons_zero, List.set_cons_succ]
        refine wpAnyH_take (i := 6) (oi := ⟨some 38, _, _, _, _, _⟩) (v := ?vn6) rfl (by kernel_rfl) (by kernel_rfl) (by kernel_rfl) (fun _ _ _ h => h) (Or.inl ⟨by rfl, ?yn6⟩) (Fr.refl _ _) ?rn6
        case yn6 =>
          intro wq hSw
          (try dsimp only at hSw)
          first | (go_simp; done) | (go_simp; with_reducible rfl)
        try simp only [Act.put, List.setIfInBounds_toArray, List.set_cons_zero, List.set_cons_succ]
        refine wpAnyH_take (i := 7) (oi := ⟨some 39, _, _, _, _, _⟩) (v := ?vn7) rfl (by kernel_rfl) (by kernel_rfl) (by kernel_rfl) (fun _ _ _ h => h) (Or.inl ⟨by rfl, ?yn7⟩) (Fr.refl _ _) ?rn7
        case yn7 =>
          intro wq hSw
          (try dsimp only at hSw)
          first | (go_simp; done) | (go_simp; with_reducible rfl)
        try simp only [Act.put, List.setIfInBounds_toArray, List.set_cons_zero, List.set_cons_succ]
        refine wpAnyH_take (i := 8) (oi := ⟨some 40, _, _, _, _, _⟩) (v := ?vn8) rfl (by kernel_rfl) (by kernel_rfl) (by kernel_rfl) (fun _ _ _ h => h) (Or.inl ⟨by rfl, ?yn8⟩) (Fr.refl _ _) ?rn8
        case yn8 =>
          intro wq hSw
          (try dsimp only at hSw)
          have hq := hSw.cell_some C2.out (fun h => h)
          first | (go_simp; done) | (go_simp; with_reducible rfl)
        try simp only [Act.put, List.setIfInBounds_toArray, List.set_cons_zero, List.set_cons_succ]
        refine wpAnyH_take (i := 11) (oi := ⟨some 43, _, _, _, _, _⟩) (v := ?vn11) rfl (by kernel_rfl) (by kernel_rfl) (by kernel_rfl) (fun _ _ _ h => h) (Or.inl ⟨by rfl, ?yn11⟩) (Fr.refl _ _) ?rn11
        case yn11 =>
          intro wq hSw
          (try dsimp only at hSw)
          first | (go_simp; done) | (go_simp; with_reducible rfl)
        try simp only [Act.put, List.setIfInBounds_toArray, List.set_cons_zero, List.set_cons_succ]
        refine wpAnyH_take (i := 12) (oi := ⟨some 44, _, _, _, _, _⟩) (v := ?vn12) rfl (by kernel_rfl) (by kernel_rfl) (by kernel_rfl) (fun _ _ _ h => h) (Or.inl ⟨by rfl, ?yn12⟩) (Fr.refl _ _) ?rn12
        case yn12 =>
          intro wq hSw
          (try dsimp only at hSw)
          first | (go_simp; done) | (go_simp; with_reducible rfl)
        try simp only [Act.put, List.setIfInBounds_toArray, List.set_cons_zero, List.set_cons_succ]
        refine wpAnyH_take (i := 13) (oi := ⟨some 45, _, _, _, _, _⟩) (v := ?vn13) rfl (by kernel_rfl) (by kernel_rfl) (by kernel_rfl) (fun _ _ _ h => h) (Or.inl ⟨by rfl, ?yn13⟩) (Fr.refl _ _) ?rn13
        case yn13 =>
          intro wq hSw
          (try dsimp only at hSw)
          have hq := hSw.cell_some C2.out (fun h => h)
          first | (go_simp; done) | (go_simp; with_reducible rfl)
        try simp only [Act.put, List.setIfInBounds_toArray, List.set_cons_zero, List.set_cons_succ]
        refine wpAnyH_take (i := 16) (oi := ⟨some 48, _, _, _, _, _⟩) (v := ?vn16) rfl (by kernel_rfl) (by kernel_rfl) (by kernel_rfl) (fun _ _ _ h => h) (Or.inl ⟨by rfl, ?yn16⟩) (Fr.refl _ _) ?rn16
        case yn16 =>
          intro wq hSw
          (try dsimp only at hSw)
          first | (go_simp; done) | (go_simp; with_reducible rfl)
        try simp only [Act.put, List.setIfInBounds_toArray, List.set_cons_zero, List.set_cons_succ]
        refine wpAnyH_take (i := 19) (oi := ⟨some 51, _, _, _, _, _⟩) (v := ?vn19) rfl (by kernel_rfl) (by kernel_rfl) (by kernel_rfl) (fun _ _ _ h => h) (Or.inl ⟨by rfl, ?yn19⟩) (Fr.refl _ _) ?rn19
        case yn19 =>
          intro wq hSw
          (try dsimp only at hSw)
          first | (go_simp; done) | (go_simp; with_reducible rfl)
        try simp only [Act.put, List.setIfInBounds_toArray, List.set_cons_zero, List.set_cons_succ]
        refine wpAnyH_take (i := 22) (oi := ⟨some 54, _, _, _, _, _⟩) (v := ?vn22) rfl (by kernel_rfl) (by kernel_rfl) (by kernel_rfl) (fun _ _ _ h => h) (Or.inl ⟨by rfl, ?yn22⟩) (Fr.refl _ _) ?rn22
        case yn22 =>
          intro wq hSw
          (try dsimp only at hSw)
          first | (go_simp; done) | (go_simp; with_reducible rfl)
        try simp only [Act.put, List.setIfInBounds_toArray, List.set_cons_zero, List.set_cons_succ]
        refine wpAnyH_ready (rs := [3]) (by kernel_rfl) (by simp) ?_
        refine AllReadyH.cons (o := ⟨some 35, _, _, _, _, _⟩) rfl (fun K hK => ?_) AllReadyH.nil
        go_simp
        refine (taken_no _ wr.drew (NV.out.keep (Below.drew (Below.refl _ _)))).mono ?_; rintro e v0 ⟨rfl, hb⟩
        have hfr : Fr (fun _ => False) wr.drew v0 := Fr.of_below hb
        have NV := Lib.hid ((NV.out.keep (Below.drew (Below.refl _ _))).keep hb)
        have C1 := Lib.hid (hfr.cell_some C1.out (fun h => h))
        have C2 := Lib.hid (hfr.cell_some C2.out (fun h => h))
        have C3 := Lib.hid (hfr.cell_some C3.out (fun h => h))
        have BL := Lib.hid (BL.out.trans (hb.mono BL.out.size))
        clear hb
        go_wp2_with fail
        refine hK.out _ _ hfr (fun hHeld => ?_)
        clear hK K hHeld
        try simp only [Act.put, List.setIfInBounds_toArray, List.set_cons_zero, List.set_cons_succ]
        refine wpAnyH_re (S' := fun w' => Fr (fun _ => False) v0 w') (fun w' h => hfr.trans h) ?_
        clear hfr
        refine wpAnyH_take (i := 4) (oi := ⟨some 36, _, _, _, _, _⟩) (v := ?vn4) rfl (by kernel_rfl) (by kernel_rfl) (by kernel_rfl) (fun _ _ _ h => h) (Or.inl ⟨by rfl, ?yn4⟩) (Fr.refl _ _) ?rn4
        case yn4 =>
          intro wq hSw
          (try dsimp only at hSw)
          first | (go_simp; done) | (go_simp; with_reducible rfl)
        try simp only [Act.put, List.setIfInBounds_toArray, List.set_cons_zero, List.set_cons_succ]
        refine wpAnyH_take (i := 5) (oi := ⟨some 37, _, _, _, _, _⟩) (v := ?vn5) rfl (by kernel_rfl) (by kernel_rfl) (by kernel_rfl) (fun _ _ _ h => h) (Or.inl ⟨by rfl, ?yn5⟩) (Fr.refl _ _) ?rn5
        case yn5 =>
          intro wq hSw
          (try dsimp only at hSw)
          first | (go_simp; done) | (go_simp; with_reducible rfl)
        try simp only [Act.put, List.setIfInBounds_toArray, List.set_cons_zero, List.set_cons_succ]
        refine wpAnyH_ready (rs := [9]) (by kernel_rfl) (by simp) ?_
        refine AllReadyH.cons (o := ⟨some 41, _, _, _, _, _⟩) rfl (fun K hK => ?_) AllReadyH.nil
        go_simp
        refine (give_no _ LA q lc v0 NV.out).mono ?_; rintro e v1 ⟨rfl, hb⟩
        have hfr : Fr (fun _ => False) v0 v1 := Fr.of_below hb
        have NV := Lib.hid (NV.out.keep hb)
        have C1 := Lib.hid (hfr.cell_some C1.out (fun h => h))
        have C2 := Lib.hid (hfr.cell_some C2.out (fun h => h))
        have C3 := Lib.hid (hfr.cell_some C3.out (fun h => h))
        have BL := Lib.hid (BL.out.trans (hb.mono BL.out.size))
        clear hb
        go_wp2_with fail
        refine hK.out _ _ hfr (fun hHeld => ?_)
        clear hK K hHeld
        try simp only [Act.put, List.setIfInBounds_toArray, List.set_cons_zero, List.set_cons_succ]
        refine wpAnyH_re (S' := fun w' => Fr (fun _ => False) v1 w') (fun w' h => hfr.trans h) ?_
        clear hfr
        refine wpAnyH_take (i := 10) (oi := ⟨some 42, _, _, _, _, _⟩) (v := ?vn10) rfl (by kernel_rfl) (by kernel_rfl) (by kernel_rfl) (fun _ _ _ h => h) (Or.inl ⟨by rfl, ?yn10⟩) (Fr.refl _ _) ?rn10
        case yn10 =>
          intro wq hSw
          (try dsimp only at hSw)
          first | (go_simp; done) | (go_simp; with_reducible rfl)
        try simp only [Act.put, List.setIfInBounds_toArray, List.set_cons_zero, List.set_cons_succ]
        refine wpAnyH_ready (rs := [14]) (by kernel_rfl) (by simp) ?_
        refine AllReadyH.cons (o := ⟨some 46, _, _, _, _, _⟩) rfl (fun K hK => ?_) AllReadyH.nil
        go_simp
        refine (later_no _ LA q lc v1 NV.out).mono ?_; rintro e v2 ⟨rfl, hb⟩
        have hfr : Fr (fun _ => False) v1 v2 := Fr.of_below hb
        have NV := Lib.hid (NV.out.keep hb)
        have C1 := Lib.hid (hfr.cell_some C1.out (fun h => h))
        have C2 := Lib.hid (hfr.cell_some C2.out (fun h => h))
        have C3 := Lib.hid (hfr.cell_some C3.out (fun h => h))
        have BL := Lib.hid (BL.out.trans (hb.mono BL.out.size))
        clear hb
        go_wp2_with fail
        refine hK.out _ _ hfr (fun hHeld => ?_)
        clear hK K hHeld
        try simp only [Act.put, List.setIfInBounds_toArray, List.set_cons_zero, List.set_cons_succ]
        refine wpAnyH_re (S' := fun w' => Fr (fun _ => False) v2 w') (fun w' h => hfr.trans h) ?_
        clear hfr
        refine wpAnyH_take (i := 15) (oi := ⟨some 47, _, _, _, _, _⟩) (v := ?vn15) rfl (by kernel_rfl) (by kernel_rfl) (by kernel_rfl) (fun _ _ _ h => h) (Or.inl ⟨by rfl, ?yn15⟩) (Fr.refl _ _) ?rn15
        case yn15 =>
          intro wq hSw
          (try dsimp only at hSw)
          first | (go_simp; done) | (go_simp; with_reducible rfl)
        try simp only [Act.put, List.setIfInBounds_toArray, List.set_cons_zero, List.set_cons_succ]
        refine wpAnyH_ready (rs := [17]) (by kernel_rfl) (by simp) ?_
        refine AllReadyH.cons (o := ⟨some 49, _, _, _, _, _⟩) rfl (fun K hK => ?_) AllReadyH.nil
        go_simp
        refine (settle_no _ v2 NV.out).mono ?_; rintro e v3 ⟨rfl, hb⟩
        have hfr : Fr (fun _ => False) v2 v3 := Fr.of_below hb
        have NV := Lib.hid (NV.out.keep hb)
        have C1 := Lib.hid (hfr.cell_some C1.out (fun h => h))
        have C2 := Lib.hid (hfr.cell_some C2.out (fun h => h))
        have C3 := Lib.hid (hfr.cell_some C3.out (fun h => h))
        have BL := Lib.hid (BL.out.trans (hb.mono BL.out.size))
        clear hb
        go_wp2_with fail
        refine hK.out _ _ hfr (fun hHeld => ?_)
        clear hK K hHeld
        try simp only [Act.put, List.setIfInBounds_toArray, List.set_cons_zero, List.set_cons_succ]
        refine wpAnyH_re (S' := fun w' => Fr (fun _ => False) v3 w') (fun w' h => hfr.trans h) ?_
        clear hfr
        refine wpAnyH_take (i := 18) (oi := ⟨some 50, _, _, _, _, _⟩) (v := ?vn18) rfl (by kernel_rfl) (by kernel_rfl) (by kernel_rfl) (fun _ _ _ h => h) (Or.inl ⟨by rfl, ?yn18⟩) (Fr.refl _ _) ?rn18
        case yn18 =>
          intro wq hSw
          (try dsimp only at hSw)
          first | (go_simp; done) | (go_simp; with_reducible rfl)
        try simp only [Act.put, List.setIfInBounds_toArray, List.set_cons_zero, List.set_cons_succ]
        refine wpAnyH_ready (rs := [20]) (by kernel_rfl) (by simp) ?_
        refine AllReadyH.cons (o := ⟨some 52, _, _, _, _, _⟩) rfl (fun K hK => ?_) AllReadyH.nil
        go_simp
        refine (free_no _ v3 NV.out).mono ?_; rintro e v4 ⟨rfl, hb⟩
        have hfr : Fr (fun _ => False) v3 v4 := Fr.of_below hb
        have NV := Lib.hid (NV.out.keep hb)
        have C1 := Lib.hid (hfr.cell_some C1.out (fun h => h))
        have C2 := Lib.hid (hfr.cell_some C2.out (fun h => h))
        have C3 := Lib.hid (hfr.cell_some C3.out (fun h => h))
        have BL := Lib.hid (BL.out.trans (hb.mono BL.out.size))
        clear hb
        go_wp2_with fail
        refine hK.out _ _ hfr (fun hHeld => ?_)
        clear hK K hHeld
        try simp only [Act.put, List.setIfInBounds_toArray, List.set_cons_zero, List.set_cons_succ]
        refine wpAnyH_re (S' := fun w' => Fr (fun _ => False) v4 w') (fun w' h => hfr.trans h) ?_
        clear hfr
        refine wpAnyH_take (i := 21) (oi := ⟨some 53, _, _, _, _, _⟩) (v := ?vn21) rfl (by kernel_rfl) (by kernel_rfl) (by kernel_rfl) (fun _ _ _ h => h) (Or.inl ⟨by rfl, ?yn21⟩) (Fr.refl _ _) ?rn21
        case yn21 =>
          intro wq hSw
          (try dsimp only at hSw)
          first | (go_simp; done) | (go_simp; with_reducible rfl)
        try simp only [Act.put, List.setIfInBounds_toArray, List.set_cons_zero, List.set_cons_succ]
        refine wpAnyH_ready (rs := [23]) (by kernel_rfl) (by simp) ?_
        refine AllReadyH.cons (o := ⟨some 55, _, _, _, _, _⟩) rfl (fun K hK => ?_) AllReadyH.nil
        go_simp
        refine (limbo_no _ v4 NV.out).mono ?_; rintro e v5 ⟨rfl, hb⟩
        have hfr : Fr (fun _ => False) v4 v5 := Fr.of_below hb
        have NV := Lib.hid (NV.out.keep hb)
        have C1 := Lib.hid (hfr.cell_some C1.out (fun h => h))
        have C2 := Lib.hid (hfr.cell_some C2.out (fun h => h))
        have C3 := Lib.hid (hfr.cell_some C3.out (fun h => h))
        have BL := Lib.hid (BL.out.trans (hb.mono BL.out.size))
        clear hb
        go_wp2_with fail
        refine hK.out _ _ hfr (fun hHeld => ?_)
        clear hK K hHeld
        try simp only [Act.put, List.setIfInBounds_toArray, List.set_cons_zero, List.set_cons_succ]
        refine wpAnyH_re (S' := fun w' => Fr (fun _ => False) v5 w') (fun w' h => hfr.trans h) ?_
        clear hfr
        refine wpAnyH_take (i := 24) (oi := ⟨some 56, _, _, _, _, _⟩) (v := ?vn24) rfl (by kernel_rfl) (by kernel_rfl) (by kernel_rfl) (fun _ _ _ h => h) (Or.inl ⟨by rfl, ?yn24⟩) (Fr.refl _ _) ?rn24
        case yn24 =>
          intro wq hSw
          (try dsimp only at hSw)
          first | (go_simp; done) | (go_simp; with_reducible rfl)
        try simp only [Act.put, List.setIfInBounds_toArray, List.set_cons_zero, List.set_cons_succ]
        refine wpAnyH_take (i := 25) (oi := ⟨some 57, _, _, _, _, _⟩) (v := ?vn25) rfl (by kernel_rfl) (by kernel_rfl) (by kernel_rfl) (fun _ _ _ h => h) (Or.inl ⟨by rfl, ?yn25⟩) (Fr.refl _ _) ?rn25
        case yn25 =>
          intro wq hSw
          (try dsimp only at hSw)
          first | (go_simp; done) | (go_simp; with_reducible rfl)
        try simp only [Act.put, List.setIfInBounds_toArray, List.set_cons_zero, List.set_cons_succ]
        refine wpAnyH_take (i := 26) (oi := ⟨some 58, _, _, _, _, _⟩) (v := ?vn26) rfl (by kernel_rfl) (by kernel_rfl) (by kernel_rfl) (fun _ _ _ h => h) (Or.inl ⟨by rfl, ?yn26⟩) (Fr.refl _ _) ?rn26
        case yn26 =>
          intro wq hSw
          (try dsimp only at hSw)
          first | (go_simp; done) | (go_simp; with_reducible rfl)
        try simp only [Act.put, List.setIfInBounds_toArray, List.set_cons_zero, List.set_cons_succ]
        refine wpAnyH_take (i := 27) (oi := ⟨some 59, _, _, _, _, _⟩) (v := ?vn27) rfl (by kernel_rfl) (by kernel_rfl) (by kernel_rfl) (fun _ _ _ h => h) (Or.inl ⟨by rfl, ?yn27⟩) (Fr.refl _ _) ?rn27
        case yn27 =>
          intro wq hSw
          (try dsimp only at hSw)
          first | (go_simp; done) | (go_simp; with_reducible rfl)
        try simp only [Act.put, List.setIfInBounds_toArray, List.set_cons_zero, List.set_cons_succ]
        refine wpAnyH_take (i := 28) (oi := ⟨some 60, _, _, _, _, _⟩) (v := ?vn28) rfl (by kernel_rfl) (by kernel_rfl) (by kernel_rfl) (fun _ _ _ h => h) (Or.inl ⟨by rfl, ?yn28⟩) (Fr.refl _ _) ?rn28
        case yn28 =>
          intro wq hSw
          (try dsimp only at hSw)
          first | (go_simp; done) | (go_simp; with_reducible rfl)
        try simp only [Act.put, List.setIfInBounds_toArray, List.set_cons_zero, List.set_cons_succ]
        refine wpAnyH_take (i := 29) (oi := ⟨some 61, _, _, _, _, _⟩) (v := ?vn29) rfl (by kernel_rfl) (by kernel_rfl) (by kernel_rfl) (fun _ _ _ h => h) (Or.inl ⟨by rfl, ?yn29⟩) (Fr.refl _ _) ?rn29
        case yn29 =>
          intro wq hSw
          (try dsimp only at hSw)
          first | (go_simp; done) | (go_simp; with_reducible rfl)
        try simp only [Act.put, List.setIfInBounds_toArray, List.set_cons_zero, List.set_cons_succ]
        refine wpAnyH_take (i := 30) (oi := ⟨some 62, _, _, _, _, _⟩) (v := ?vn30) rfl (by kernel_rfl) (by kernel_rfl) (by kernel_rfl) (fun _ _ _ h => h) (Or.inl ⟨by rfl, ?yn30⟩) (Fr.refl _ _) ?rn30
        case yn30 =>
          intro wq hSw
          (try dsimp only at hSw)
          first | (go_simp; done) | (go_simp; with_reducible rfl)
        try simp only [Act.put, List.setIfInBounds_toArray, List.set_cons_zero, List.set_cons_succ]
        refine wpAnyH_take (i := 31) (oi := ⟨some 63, _, _, _, _, _⟩) (v := ?vn31) rfl (by kernel_rfl) (by kernel_rfl) (by kernel_rfl) (fun _ _ _ h => h) (Or.inl ⟨by rfl, ?yn31⟩) (Fr.refl _ _) ?rn31
        case yn31 =>
          intro wq hSw
          (try dsimp only at hSw)
          first | (go_simp; done) | (go_simp; with_reducible rfl)
        try simp only [Act.put, List.setIfInBounds_toArray, List.set_cons_zero, List.set_cons_succ]
        refine wpAnyH_take (i := 32) (oi := ⟨some 64, _, _, _, _, _⟩) (v := ?vn32) rfl (by kernel_rfl) (by kernel_rfl) (by kernel_rfl) (fun _ _ _ h => h) (Or.inl ⟨by rfl, ?yn32⟩) (Fr.refl _ _) ?rn32
        case yn32 =>
          intro wq hSw
          (try dsimp only at hSw)
          first | (go_simp; done) | (go_simp; with_reducible rfl)
        try simp only [Act.put, List.setIfInBounds_toArray, List.set_cons_zero, List.set_cons_succ]
        refine wpAnyH_take (i := 33) (oi := ⟨some 65, _, _, _, _, _⟩) (v := ?vn33) rfl (by kernel_rfl) (by kernel_rfl) (by kernel_rfl) (fun _ _ _ h => h) (Or.inl ⟨by rfl, ?yn33⟩) (Fr.refl _ _) ?rn33
        case yn33 =>
          intro wq hSw
          (try dsimp only at hSw)
          first | (go_simp; done) | (go_simp; with_reducible rfl)
        try simp only [Act.put, List.setIfInBounds_toArray, List.set_cons_zero, List.set_cons_succ]
        refine wpAnyH_take (i := 34) (oi := ⟨some 66, _, _, _, _, _⟩) (v := ?vn34) rfl (by kernel_rfl) (by kernel_rfl) (by kernel_rfl) (fun _ _ _ h => h) (Or.inl ⟨by rfl, ?yn34⟩) (Fr.refl _ _) ?rn34
        case yn34 =>
          intro wq hSw
          (try dsimp only at hSw)
          first | (go_simp; done) | (go_simp; with_reducible rfl)
        try simp only [Act.put, List.setIfInBounds_toArray, List.set_cons_zero, List.set_cons_succ]
        refine wpAnyH_take (i := 35) (oi := ⟨some 67, _, _, _, _, _⟩) (v := ?vn35) rfl (by kernel_rfl) (by kernel_rfl) (by kernel_rfl) (fun _ _ _ h => h) (Or.inl ⟨by rfl, ?yn35⟩) (Fr.refl _ _) ?rn35
        case yn35 =>
          intro wq hSw
          (try dsimp only at hSw)
          first | (go_simp; done) | (go_simp; with_reducible rfl)
        try simp only [Act.put, List.setIfInBounds_toArray, List.set_cons_zero, List.set_cons_succ]
        refine wpAnyH_take (i := 36) (oi := ⟨some 68, _, _, _, _, _⟩) (v := ?vn36) rfl (by kernel_rfl) (by kernel_rfl) (by kernel_rfl) (fun _ _ _ h => h) (Or.inl ⟨by rfl, ?yn36⟩) (Fr.refl _ _) ?rn36
        case yn36 =>
          intro wq hSw
          (try dsimp only at hSw)
          first | (go_simp; done) | (go_simp; with_reducible rfl)
        try simp only [Act.put, List.setIfInBounds_toArray, List.set_cons_zero, List.set_cons_succ]
        refine wpAnyH_take (i := 37) (oi := ⟨some 69, _, _, _, _, _⟩) (v := ?vn37) rfl (by kernel_rfl) (by kernel_rfl) (by kernel_rfl) (fun _ _ _ h => h) (Or.inl ⟨by rfl, ?yn37⟩) (Fr.refl _ _) ?rn37
        case yn37 =>
          intro wq hSw
          (try dsimp only at hSw)
          first | (go_simp; done) | (go_simp; with_reducible rfl)
        try simp only [Act.put, List.setIfInBounds_toArray, List.set_cons_zero, List.set_cons_succ]
        refine wpAnyH_take (i := 38) (oi := ⟨some 70, _, _, _, _, _⟩) (v := ?vn38) rfl (by kernel_rfl) (by kernel_rfl) (by kernel_rfl) (fun _ _ _ h => h) (Or.inl ⟨by rfl, ?yn38⟩) (Fr.refl _ _) ?rn38
        case yn38 =>
          intro wq hSw
          (try dsimp only at hSw)
          first | (go_simp; done) | (go_simp; with_reducible rfl)
        try simp only [Act.put, List.setIfInBounds_toArray, List.set_cons_zero, List.set_cons_succ]
        refine wpAnyH_take (i := 39) (oi := ⟨some 71, _, _, _, _, _⟩) (v := ?vn39) rfl (by kernel_rfl) (by kernel_rfl) (by kernel_rfl) (fun _ _ _ h => h) (Or.inl ⟨by rfl, ?yn39⟩) (Fr.refl _ _) ?rn39
        case yn39 =>
          intro wq hSw
          (try dsimp only at hSw)
          first | (go_simp; done) | (go_simp; with_reducible rfl)
        try simp only [Act.put, List.setIfInBounds_toArray, List.set_cons_zero, List.set_cons_succ]
        refine wpAnyH_take (i := 40) (oi := ⟨some 72, _, _, _, _, _⟩) (v := ?vn40) rfl (by kernel_rfl) (by kernel_rfl) (by kernel_rfl) (fun _ _ _ h => h) (Or.inl ⟨by rfl, ?yn40⟩) (Fr.refl _ _) ?rn40
        case yn40 =>
          intro wq hSw
          (try dsimp only at hSw)
          first | (go_simp; done) | (go_simp; with_reducible rfl)
        try simp only [Act.put, List.setIfInBounds_toArray, List.set_cons_zero, List.set_cons_succ]
        refine wpAnyH_take (i := 41) (oi := ⟨some 73, _, _, _, _, _⟩) (v := ?vn41) rfl (by kernel_rfl) (by kernel_rfl) (by kernel_rfl) (fun _ _ _ h => h) (Or.inl ⟨by rfl, ?yn41⟩) (Fr.refl _ _) ?rn41
        case yn41 =>
          intro wq hSw
          (try dsimp only at hSw)
          have hq := hSw.cell_some C3.out (fun h => h)
          first | (go_simp; done) | (go_simp; with_reducible rfl)
        try simp only [Act.put, List.setIfInBounds_toArray, List.set_cons_zero, List.set_cons_succ]
        refine wpAnyH_ready (rs := [42]) (by kernel_rfl) (by simp) ?_
        refine AllReadyH.cons (o := ⟨some 74, _, _, _, _, _⟩) rfl (fun K hK => ?_) AllReadyH.nil
        go_simp
        refine (begin_no _ e0 v5 NV.out).mono ?_; rintro e v9 ⟨rfl, hw⟩
        obtain rfl : v5 = v9 := hw.symm
        have hfr : Fr (fun _ => False) v5 v5 := Fr.refl _ _
        go_wp2_with fail
        refine hK.out _ _ hfr (fun hHeld => ?_)
        clear hK K hHeld
        try simp only [Act.put, List.setIfInBounds_toArray, List.set_cons_zero, List.set_cons_succ]
        refine wpAnyH_re (S' := fun w' => Fr (fun _ => False) v5 w') (fun w' h => hfr.trans h) ?_
        clear hfr
        refine wpAnyH_take (i := 43) (oi := ⟨some 75, _, _, _, _, _⟩) (v := ?vn43) rfl (by kernel_rfl) (by kernel_rfl) (by kernel_rfl) (fun _ _ _ h => h) (Or.inl ⟨by rfl, ?yn43⟩) (Fr.refl _ _) ?rn43
        case yn43 =>
          intro wq hSw
          (try dsimp only at hSw)
          first | (go_simp; done) | (go_simp; with_reducible rfl)
        try simp only [Act.put, List.setIfInBounds_toArray, List.set_cons_zero, List.set_cons_succ]
        refine wpAnyH_take (i := 44) (oi := ⟨some 76, _, _, _, _, _⟩) (v := ?vn44) rfl (by kernel_rfl) (by kernel_rfl) (by kernel_rfl) (fun _ _ _ h => h) (Or.inl ⟨by rfl, ?yn44⟩) (Fr.refl _ _) ?rn44
        case yn44 =>
          intro wq hSw
          (try dsimp only at hSw)
          first | (go_simp; done) | (go_simp; with_reducible rfl)
        try simp only [Act.put, List.setIfInBounds_toArray, List.set_cons_zero, List.set_cons_succ]
        refine wpAnyH_take (i := 45) (oi := ⟨some 77, _, _, _, _, _⟩) (v := ?vn45) rfl (by kernel_rfl) (by kernel_rfl) (by kernel_rfl) (fun _ _ _ h => h) (Or.inl ⟨by rfl, ?yn45⟩) (Fr.refl _ _) ?rn45
        case yn45 =>
          intro wq hSw
          (try dsimp only at hSw)
          first | (go_simp; done) | (go_simp; with_reducible rfl)
        try simp only [Act.put, List.setIfInBounds_toArray, List.set_cons_zero, List.set_cons_succ]
        refine wpAnyH_take (i := 46) (oi := ⟨some 78, _, _, _, _, _⟩) (v := ?vn46) rfl (by kernel_rfl) (by kernel_rfl) (by kernel_rfl) (fun _ _ _ h => h) (Or.inl ⟨by rfl, ?yn46⟩) (Fr.refl _ _) ?rn46
        case yn46 =>
          intro wq hSw
          (try dsimp only at hSw)
          first | (go_simp; done) | (go_simp; with_reducible rfl)
        try simp only [Act.put, List.setIfInBounds_toArray, List.set_cons_zero, List.set_cons_succ]
        refine wpAnyH_take (i := 47) (oi := ⟨some 79, _, _, _, _, _⟩) (v := ?vn47) rfl (by kernel_rfl) (by kernel_rfl) (by kernel_rfl) (fun _ _ _ h => h) (Or.inl ⟨by rfl, ?yn47⟩) (Fr.refl _ _) ?rn47
        case yn47 =>
          intro wq hSw
          (try dsimp only at hSw)
          first | (go_simp; done) | (go_simp; with_reducible rfl)
        try simp only [Act.put, List.setIfInBounds_toArray, List.set_cons_zero, List.set_cons_succ]
        refine wpAnyH_take (i := 48) (oi := ⟨some 80, _, _, _, _, _⟩) (v := ?vn48) rfl (by kernel_rfl) (by kernel_rfl) (by kernel_rfl) (fun _ _ _ h => h) (Or.inl ⟨by rfl, ?yn48⟩) (Fr.refl _ _) ?rn48
        case yn48 =>
          intro wq hSw
          (try dsimp only at hSw)
          have hq := hSw.cell_some C1.out (fun h => h)
          first | (go_simp; done) | (go_simp; with_reducible rfl)
        try simp only [Act.put, List.setIfInBounds_toArray, List.set_cons_zero, List.set_cons_succ]
        refine wpAnyH_ready (rs := [49]) (by kernel_rfl) (by simp) ?_
        refine AllReadyH.cons (o := ⟨some 81, _, _, _, _, _⟩) rfl (fun K hK => ?_) AllReadyH.nil
        go_simp
        refine (use_no _ n v5 NV.out).mono ?_; rintro e v6 ⟨rfl, hb⟩
        have hfr : Fr (fun _ => False) v5 v6 := Fr.of_below hb
        have NV := Lib.hid (NV.out.keep hb)
        have C1 := Lib.hid (hfr.cell_some C1.out (fun h => h))
        have C2 := Lib.hid (hfr.cell_some C2.out (fun h => h))
        have C3 := Lib.hid (hfr.cell_some C3.out (fun h => h))
        have BL := Lib.hid (BL.out.trans (hb.mono BL.out.size))
        clear hb
        go_wp2_with fail
        refine hK.out _ _ hfr (fun hHeld => ?_)
        clear hK K hHeld
        try simp only [Act.put, List.setIfInBounds_toArray, List.set_cons_zero, List.set_cons_succ]
        refine wpAnyH_re (S' := fun w' => Fr (fun _ => False) v6 w') (fun w' h => hfr.trans h) ?_
        clear hfr
        refine wpAnyH_take (i := 50) (oi := ⟨some 82, _, _, _, _, _⟩) (v := ?vn50) rfl (by kernel_rfl) (by kernel_rfl) (by kernel_rfl) (fun _ _ _ h => h) (Or.inl ⟨by rfl, ?yn50⟩) (Fr.refl _ _) ?rn50
        case yn50 =>
          intro wq hSw
          (try dsimp only at hSw)
          first | (go_simp; done) | (go_simp; with_reducible rfl)
        try simp only [Act.put, List.setIfInBounds_toArray, List.set_cons_zero, List.set_cons_succ]
        refine wpAnyH_take (i := 51) (oi := ⟨some 83, _, _, _, _, _⟩) (v := ?vn51) rfl (by kernel_rfl) (by kernel_rfl) (by kernel_rfl) (fun _ _ _ h => h) (Or.inl ⟨by rfl, ?yn51⟩) (Fr.refl _ _) ?rn51
        case yn51 =>
          intro wq hSw
          (try dsimp only at hSw)
          first | (go_simp; done) | (go_simp; with_reducible rfl)
        try simp only [Act.put, List.setIfInBounds_toArray, List.set_cons_zero, List.set_cons_succ]
        refine wpAnyH_take (i := 52) (oi := ⟨some 84, _, _, _, _, _⟩) (v := ?vn52) rfl (by kernel_rfl) (by kernel_rfl) (by kernel_rfl) (fun _ _ _ h => h) (Or.inl ⟨by rfl, ?yn52⟩) (Fr.refl _ _) ?rn52
        case yn52 =>
          intro wq hSw
          (try dsimp only at hSw)
          first | (go_simp; done) | (go_simp; with_reducible rfl)
        try simp only [Act.put, List.setIfInBounds_toArray, List.set_cons_zero, List.set_cons_succ]
        refine wpAnyH_ready (rs := [53]) (by kernel_rfl) (by simp) ?_
        refine AllReadyH.cons (o := ⟨some 85, _, _, _, _, _⟩) rfl (fun K hK => ?_) AllReadyH.nil
        go_simp
        refine (epoch_no _ v6 NV.out).mono ?_; rintro e v9 ⟨rfl, hw⟩
        obtain rfl : v6 = v9 := hw.symm
        have hfr : Fr (fun _ => False) v6 v6 := Fr.refl _ _
        go_wp2_with fail
        refine hK.out _ _ hfr (fun hHeld => ?_)
        clear hK K hHeld
        try simp only [Act.put, List.setIfInBounds_toArray, List.set_cons_zero, List.set_cons_succ]
        refine wpAnyH_re (S' := fun w' => Fr (fun _ => False) v6 w') (fun w' h => hfr.trans h) ?_
        clear hfr
        refine wpAnyH_take (i := 54) (oi := ⟨some 86, _, _, _, _, _⟩) (v := ?vn54) rfl (by kernel_rfl) (by kernel_rfl) (by kernel_rfl) (fun _ _ _ h => h) (Or.inl ⟨by rfl, ?yn54⟩) (Fr.refl _ _) ?rn54
        case yn54 =>
          intro wq hSw
          (try dsimp only at hSw)
          first | (go_simp; done) | (go_simp; with_reducible rfl)
        try simp only [Act.put, List.setIfInBounds_toArray, List.set_cons_zero, List.set_cons_succ]
        refine wpAnyH_take (i := 55) (oi := ⟨some 87, _, _, _, _, _⟩) (v := ?vn55) rfl (by kernel_rfl) (by kernel_rfl) (by kernel_rfl) (fun _ _ _ h => h) (Or.inl ⟨by rfl, ?yn55⟩) (Fr.refl _ _) ?rn55
        case yn55 =>
          intro wq hSw
          (try dsimp only at hSw)
          first | (go_simp; done) | (go_simp; with_reducible rfl)
        try simp only [Act.put, List.setIfInBounds_toArray, List.set_cons_zero, List.set_cons_succ]
        refine wpAnyH_take (i := 56) (oi := ⟨some 88, _, _, _, _, _⟩) (v := ?vn56) rfl (by kernel_rfl) (by kernel_rfl) (by kernel_rfl) (fun _ _ _ h => h) (Or.inl ⟨by rfl, ?yn56⟩) (Fr.refl _ _) ?rn56
        case yn56 =>
          intro wq hSw
          (try dsimp only at hSw)
          first | (go_simp; done) | (go_simp; with_reducible rfl)
        try simp only [Act.put, List.setIfInBounds_toArray, List.set_cons_zero, List.set_cons_succ]
        refine wpAnyH_take (i := 57) (oi := ⟨some 89, _, _, _, _, _⟩) (v := ?vn57) rfl (by kernel_rfl) (by kernel_rfl) (by kernel_rfl) (fun _ _ _ h => h) (Or.inl ⟨by rfl, ?yn57⟩) (Fr.refl _ _) ?rn57
        case yn57 =>
          intro wq hSw
          (try dsimp only at hSw)
          first | (go_simp; done) | (go_simp; with_reducible rfl)
        try simp only [Act.put, List.setIfInBounds_toArray, List.set_cons_zero, List.set_cons_succ]
        refine wpAnyH_ready (rs := [58]) (by kernel_rfl) (by simp) ?_
        refine AllReadyH.cons (o := ⟨some 90, _, _, _, _, _⟩) rfl (fun K hK => ?_) AllReadyH.nil
        go_simp
        refine (pcopy_no _ v6 NV.out).mono ?_; rintro e v9 ⟨rfl, hw⟩
        obtain rfl : v6 = v9 := hw.symm
        have hfr : Fr (fun _ => False) v6 v6 := Fr.refl _ _
        go_wp2_with fail
        refine hK.out _ _ hfr (fun hHeld => ?_)
        clear hK K hHeld
        try simp only [Act.put, List.setIfInBounds_toArray, List.set_cons_zero, List.set_cons_succ]
        refine wpAnyH_re (S' := fun w' => Fr (fun _ => False) v6 w') (fun w' h => hfr.trans h) ?_
        clear hfr
        refine wpAnyH_take (i := 59) (oi := ⟨some 91, _, _, _, _, _⟩) (v := ?vn59) rfl (by kernel_rfl) (by kernel_rfl) (by kernel_rfl) (fun _ _ _ h => h) (Or.inl ⟨by rfl, ?yn59⟩) (Fr.refl _ _) ?rn59
        case yn59 =>
          intro wq hSw
          (try dsimp only at hSw)
          first | (go_simp; done) | (go_simp; with_reducible rfl)
        try simp only [Act.put, List.setIfInBounds_toArray, List.set_cons_zero, List.set_cons_succ]
        refine wpAnyH_take (i := 60) (oi := ⟨some 92, _, _, _, _, _⟩) (v := ?vn60) rfl (by kernel_rfl) (by kernel_rfl) (by kernel_rfl) (fun _ _ _ h => h) (Or.inl ⟨by rfl, ?yn60⟩) (Fr.refl _ _) ?rn60
        case yn60 =>
          intro wq hSw
          (try dsimp only at hSw)
          first | (go_simp; done) | (go_simp; with_reducible rfl)
        try simp only [Act.put, List.setIfInBounds_toArray, List.set_cons_zero, List.set_cons_succ]
        refine wpAnyH_done (by kernel_rfl) ?_ _
        go_wp2_with fail
        go_roundw
        case rel => exact ⟨k + 1, by omega, by go_num, .inr ⟨v6.heap.size, rfl, by rw [cell_of_row _ _ _ _ _ _ (heap_alloc_new v6 _)]; rfl⟩, (HB.out.trans (BL.out.mono HB.out.size)).alloc (by have := HB.out.size; have := BL.out.size; omega) _⟩
        case measure => simp [intOf]; omega
      · obtain rfl : k = 2 := by omega
        have hg := gives14_any _ ((HN.out.keep HB1.out).keep hb)
        have HB := Lib.hid (HB1.out.trans (hb.mono HB1.out.size))
        clear hv hb hwo
        go_wp2_with fail
        refine hg.mono ?_; clear hg; rintro e w2 ⟨rfl, hb⟩
        have HB2 := Lib.hid (HB.out.trans (hb.mono HB.out.size))
        clear hb
        go_wp2_with fail
        go_ret
        exact ⟨rfl, HB2.out⟩
end Go.Proofs.YtgkdpljlgdlekaaDoor
