/-
  Contract of the document's Turned. No condition. (Written by gen_mec.py.)
-/
import Derived.Test.YtccnoflgbopjlaaMea
import Derived.Test.YtccnoflgbopjlaaMdo
namespace Go.Proofs.Ytccnoflgbopjlaa
open Go.RowKit Go.Proofs
set_option linter.unusedVariables false

/-- What the loops of the document's Turned keep: its variable holds the first q numbers. -/
structure TnIn (w0 w : World) (m : M3) (P : Option Addr) (p bm q : Nat) (A : Option Addr) (c : Nat) (l : List UInt8) : Prop where
  below : Below w0.heap.size w0 w
  hi : w0.heap.size + 2 ≤ bm
  b0 : w.heap[w0.heap.size]? = some (m.box P p)
  b1 : w.heap[w0.heap.size + 1]? = some box0
  v : w.heap[bm]? = some (boxM m.c m.r A q c)
  grow : Grow w (bm + 1) A q c (l.take q)
theorem TnIn.fr {w0 w w' : World} {m : M3} {P : Option Addr} {p bm q q' : Nat} {A A' : Option Addr} {c c' : Nat} {l l' : List UInt8} (h : TnIn w0 w m P p bm q A c l) (hf : Fr (fun k => bm ≤ k) w w') (hv : w'.heap[bm]? = some (boxM m.c m.r A' q' c')) (hg : Grow w' (bm + 1) A' q' c' l') (hl : l' = l.take q') : TnIn w0 w' m P p bm q' A' c' l := by
  have hi := h.hi
  subst hl
  exact ⟨h.below.trans (hf.below h.below.size (fun k hk => by have hk : bm ≤ k := hk; omega)), hi, hf.row_some h.b0 (by show ¬ bm ≤ _; omega), hf.row_some h.b1 (by show ¬ bm ≤ _; omega), hv, hg⟩

set_option maxRecDepth 20000 in
set_option maxHeartbeats 6400000 in
theorem rturned_any (m : M3) (P : Option Addr) (p : Nat) (w : World) (s1 : Sl w 1 P m.l.length p (cells m.l)) (R C : Nat) (hM : m.Is R C (mx C m.l)) :
    Calls Try.prog 26 #[.agg #[.int .i64 m.r, .int .i64 m.c, .slice P m.l.length p]] w fun e w' => ∃ (o : M3) (A : Option Addr) (cp : Nat), e = .returned (o.v A cp) ∧ Grow w' w.heap.size A o.l.length cp o.l ∧ o = M3.of C R (fun j i => mx C m.l i j) ∧ Below w.heap.size w w' := by
  have r1 := hM.r1; have r2 := hM.r2; have c1 := hM.c1; have c2 := hM.c2
  have Hg := Lib.hid (And.intro hM.r hM.c)
  have HM := Lib.hid hM; clear hM
  have HSr0 := Lib.hid s1; clear s1
  have hRC : C * R ≤ 255 * 255 := Nat.mul_le_mul c2 r2
  obtain ⟨l, hl⟩ : ∃ l, l = tabL C R (fun j i => mx C m.l i j) := ⟨_, rfl⟩
  have Hl := Lib.hid hl; clear hl
  obtain ⟨bm, hbm⟩ : ∃ bm, bm = w.heap.size + 1 + 1 := ⟨_, rfl⟩
  have hbi : w.heap.size + 2 ≤ bm := by omega
  have Hbm := Lib.hid hbm; clear hbm
  have HT0 : TnIn w (((w.alloc (m.box P p)).alloc box0).alloc (boxM m.c m.r none 0 0)) m P p bm 0 none 0 l := by
    rw [Hbm.out]
    refine ⟨(((Below.refl _ _).alloc (Nat.le_refl _) _).alloc (by simp) _).alloc (by simp; omega) _, by omega, (Below.heap_alloc _ _ _ (by simp; omega)).trans (alloc2_old w _ _), (Below.heap_alloc _ _ _ (by simp)).trans (alloc2_new w _ _), ?_, Grow.nil _ _⟩
    have := alloc2_new (w.alloc (m.box P p)) box0 (boxM m.c m.r none 0 0)
    rwa [show (w.alloc (m.box P p)).heap.size + 1 = w.heap.size + 1 + 1 from by simp] at this
  have HT0 := Lib.hid HT0
  go_enter Try.func26, Try.ntmps26
  go_wp2_with fail
  rw [← Hbm.out]
  go_loopw [4] (fun j wr => ∃ (j' : Nat) (A : Option Addr) (c : Nat), j' ≤ C ∧ j = .int .i64 (j' : Int) ∧ TnIn w wr m P p bm (j' * R) A c l) (fun j _ => C - (intOf j).toNat)
  case atStart => exact ⟨0, none, 0, by omega, rfl, by rw [Nat.zero_mul]; exact HT0.out⟩
  case round =>
    obtain ⟨j, A, c, hj', rfl, hin⟩ := hrel
    have b1 := boxM_1 hin.b0
    have Hin := Lib.hid hin; clear hin
    by_cases hj : j < C
    · have da : decide ((j : Int) < m.c) = true := by have := Hg.out.2; simp; omega
      go_wp2_with fail
      go_loopw [5] (fun i wr => ∃ (i' : Nat) (A : Option Addr) (c : Nat), i' ≤ R ∧ i = .int .i64 (i' : Int) ∧ TnIn w wr m P p bm (j * R + i') A c l) (fun i _ => R - (intOf i).toNat)
      case atStart => exact ⟨0, A, c, by omega, rfl, Hin.out⟩
      case round =>
        clear b1 Hin
        obtain ⟨i, A, c, hi', rfl, hin⟩ := hrel
        have b0 := boxM_0 hin.b0
        have b1 := boxM_1 hin.b0
        have b2 := boxM_2 hin.b0
        have hbml := block_lt hin.v
        have BK0 := Lib.hid (show wr.drew.heap[bm]? = _ from hin.v)
        have Hin := Lib.hid hin; clear hin
        by_cases hi : i < R
        · have db : decide ((i : Int) < m.r) = true := by have := Hg.out.1; simp; omega
          have hidx := idx_lt hj hi
          have hx := tabL_snoc C R (fun j i => mx C m.l i j) (j * R + i) hidx
          rw [(idx_div (i := j) hi).1, (idx_div (i := j) hi).2, ← Hl.out] at hx
          obtain ⟨x, hxx⟩ : ∃ x, x = mx C m.l i j := ⟨_, rfl⟩
          rw [← hxx] at hx
          have Hsn := Lib.hid hx; clear hx
          have Hx := Lib.hid hxx; clear hxx
          obtain ⟨q, hq⟩ : ∃ q, q = j * R + i := ⟨_, rfl⟩
          rw [← hq] at Hin Hsn BK0 hidx
          have Hq := Lib.hid hq; clear hq
          have HTn := Lib.hid Hin.out
          have HSr := Lib.hid (HSr0.out.below Hin.out.below (Nat.le_refl _))
          have HGr := Lib.hid (show Grow wr.drew (bm + 1) A q c (l.take q) from Hin.out.grow.below (Below.drew (Below.refl _ _)))
          clear Hin
          go_wp2_with fail
          refine wp_region_held_drew (S := fun w' => Fr (fun k => bm ≤ k) wr w') (by kernel_rfl) (Fr.drew (Fr.refl _ _)) (fun hHeld => ?_)
          clear hHeld
          have hHeld : Fr (fun k => bm ≤ k) wr wr.drew := Fr.drew (Fr.refl _ _)
          have hz_0 : wr.heap.size ≤ wr.drew.heap.size := Nat.le_refl _
          obtain ⟨v_1, hw⟩ : ∃ v_1, v_1 = wr.drew := ⟨_, rfl⟩
          rw [← hw] at hHeld hz_0 BK0 HGr ⊢
          clear hw
          refine wpAnyH_take (i := 0) (oi := ⟨some 23, _, _, _, _, _⟩) (v := ?vg0_2) rfl (by kernel_rfl) (by kernel_rfl) (by kernel_rfl) (fun _ _ _ h => h) (Or.inl ⟨by rfl, ?yg0_2⟩) hHeld ?rg0_2
          case yg0_2 =>
            intro wq hSw
            (try dsimp only at hSw)
            first | (go_simp; done) | (go_simp; with_reducible rfl)
          try simp only [Act.put, List.setIfInBounds_toArray, List.set_cons_zero, List.set_cons_succ]
          refine wpAnyH_take (i := 2) (oi := ⟨some 25, _, _, _, _, _⟩) (v := ?vg2_3) rfl (by kernel_rfl) (by kernel_rfl) (by kernel_rfl) (fun _ _ _ h => h) (Or.inl ⟨by rfl, ?yg2_3⟩) hHeld ?rg2_3
          case yg2_3 =>
            intro wq hSw
            (try dsimp only at hSw)
            have q0 := hSw.cell_some b0 (by show ¬ bm ≤ w.heap.size; omega)
            have q1 := hSw.cell_some b1 (by show ¬ bm ≤ w.heap.size; omega)
            have q2 := hSw.cell_some b2 (by show ¬ bm ≤ w.heap.size; omega)
            first | (go_simp; done) | (go_simp; with_reducible rfl)
          try simp only [Act.put, List.setIfInBounds_toArray, List.set_cons_zero, List.set_cons_succ]
          refine wpAnyH_take (i := 3) (oi := ⟨some 26, _, _, _, _, _⟩) (v := ?vg3_4) rfl (by kernel_rfl) (by kernel_rfl) (by kernel_rfl) (fun _ _ _ h => h) (Or.inl ⟨by rfl, ?yg3_4⟩) hHeld ?rg3_4
          case yg3_4 =>
            intro wq hSw
            (try dsimp only at hSw)
            first | (go_simp; done) | (go_simp; with_reducible rfl)
          try simp only [Act.put, List.setIfInBounds_toArray, List.set_cons_zero, List.set_cons_succ]
          refine wpAnyH_take (i := 4) (oi := ⟨some 27, _, _, _, _, _⟩) (v := ?vg4_5) rfl (by kernel_rfl) (by kernel_rfl) (by kernel_rfl) (fun _ _ _ h => h) (Or.inl ⟨by rfl, ?yg4_5⟩) hHeld ?rg4_5
          case yg4_5 =>
            intro wq hSw
            (try dsimp only at hSw)
            first | (go_simp; done) | (go_simp; with_reducible rfl)
          try simp only [Act.put, List.setIfInBounds_toArray, List.set_cons_zero, List.set_cons_succ]
          refine wpAnyH_ready (rs := [1, 5]) (by kernel_rfl) (by simp) ?_
          refine AllReadyH.cons (o := ⟨some 24, _, _, _, _, _⟩) rfl (fun K hK => ?_) (AllReadyH.cons (o := ⟨some 28, _, _, _, _, _⟩) rfl (fun K hK => ?_) (AllReadyH.nil))
          · have qq := boxM_2 BK0.out
            go_simp
            refine hK.out _ _ hHeld (fun _ => ?_)
            clear hK K
            try simp only [Act.put, List.setIfInBounds_toArray, List.set_cons_zero, List.set_cons_succ]
            refine wpAnyH_ready (rs := [5]) (by kernel_rfl) (by simp) ?_
            refine AllReadyH.cons (o := ⟨some 28, _, _, _, _, _⟩) rfl (fun K hK => ?_) (AllReadyH.nil)
            go_simp
            have hh := rat_any m.r m.c P m.l.length p m.l (i : Int) (j : Int) v_1 (HSr.out.fr hHeld (fun b o hn hA hk => by have hk : bm ≤ b := hk; have := HSr0.out.lt (by decide) hn hA; omega))
            refine hh.mono ?_; clear hh; rintro e v_6 ⟨rfl, hbN⟩
            rw [atR_in HM.out hi hj, ← Hx.out]
            have hfN : Fr (fun k => bm ≤ k) v_1 v_6 := Fr.of_below hbN
            have bk_7 := Lib.hid ((hbN.block _ (block_lt BK0.out)).trans BK0.out)
            have HGr5 := Lib.hid (HGr.out.below hbN)
            clear hbN
            go_wp2_with fail
            have hHeld := hHeld.trans hfN
            have hz_8 := hfN.size
            refine hK.out _ _ hHeld (fun _ => ?_)
            clear hK K hfN
            try simp only [Act.put, List.setIfInBounds_toArray, List.set_cons_zero, List.set_cons_succ]
            refine wpAnyH_ready (rs := [6]) (by kernel_rfl) (by simp) ?_
            refine AllReadyH.cons (o := ⟨some 29, _, _, _, _, _⟩) rfl (fun K hK => ?_) (AllReadyH.nil)
            go_simp
            have hx := Sl.one v_6 5 x (x.toNat : Int) rfl
            have hbB : Below v_6.heap.size v_6 (v_6.alloc (.cells #[.int .u8 (x.toNat : Int)] 5)) := (Below.refl _ _).alloc (Nat.le_refl _) _
            have hfN : Fr (fun k => bm ≤ k) v_6 (v_6.alloc (.cells #[.int .u8 (x.toNat : Int)] 5)) := Fr.of_below hbB
            have bk_10 := Lib.hid ((hbB.block _ (block_lt bk_7.out)).trans bk_7.out)
            have HGr6 := Lib.hid (HGr5.out.below hbB)
            clear hbB
            obtain ⟨xb, hxb⟩ : ∃ xb, xb = v_6.heap.size := ⟨_, rfl⟩
            obtain ⟨v_9, hw⟩ : ∃ v_9, v_9 = v_6.alloc (.cells #[.int .u8 (x.toNat : Int)] 5) := ⟨_, rfl⟩
            rw [← hw] at hfN hx bk_10 HGr6 ⊢
            rw [← hxb] at hx ⊢
            clear hw hxb
            have HX := Lib.hid hx; clear hx
            have hHeld := hHeld.trans hfN
            have hz_11 := hfN.size
            refine hK.out _ _ hHeld (fun _ => ?_)
            clear hK K hfN
            try simp only [Act.put, List.setIfInBounds_toArray, List.set_cons_zero, List.set_cons_succ]
            refine wpAnyH_ready (rs := [7]) (by kernel_rfl) (by simp) ?_
            refine AllReadyH.cons (o := ⟨some 30, _, _, _, _, _⟩) rfl (fun K hK => ?_) (AllReadyH.nil)
            have hbml := block_lt bk_10.out
            refine step_append_b (B := bm + 1) rfl (.tmp 24) (.tmp 29) rfl rfl HGr6.out.own (by omega) (some ⟨xb, 0, none⟩) 1 1 [x] rfl HX.out (by omega) ?_
            intro A3 c3 v_12 ho3 hb3 hrow3
            have hfN : Fr (fun k => bm ≤ k) v_9 v_12 := Fr.of_belowAt hb3 (fun k hk => by show bm ≤ k; omega)
            have HG3 := Lib.hid (show Grow v_12 (bm + 1) A3 (q + 1) c3 (l.take q ++ [x]) from ⟨by rw [cells_append]; exact ho3, fun _ => by rw [cells_append]; exact hrow3 (by omega)⟩)
            have bk_13 := Lib.hid ((hb3.block bm (by omega)).trans bk_10.out)
            clear ho3 hrow3 hb3 HX
            have hHeld := hHeld.trans hfN
            have hz_14 := hfN.size
            refine hK.out _ _ hHeld (fun _ => ?_)
            clear hK K hfN
            try simp only [Act.put, List.setIfInBounds_toArray, List.set_cons_zero, List.set_cons_succ]
            refine wpAnyH_take (i := 8) (oi := ⟨some 31, _, _, _, _, _⟩) (v := ?vg8_15) rfl (by kernel_rfl) (by kernel_rfl) (by kernel_rfl) (fun _ _ _ h => h) (Or.inl ⟨by rfl, ?yg8_15⟩) hHeld ?rg8_15
            case yg8_15 =>
              intro wq hSw
              (try dsimp only at hSw)
              first | (go_simp; done) | (go_simp; with_reducible rfl)
            try simp only [Act.put, List.setIfInBounds_toArray, List.set_cons_zero, List.set_cons_succ]
            refine wpAnyH_ready (rs := [9]) (by kernel_rfl) (by simp) ?_
            refine AllReadyH.cons (o := ⟨none, _, _, _, _, _⟩) rfl (fun K hK => ?_) (AllReadyH.nil)
            have qq := boxM_2 bk_13.out
            have uu := boxM_free bk_13.out 2
            go_simp
            have hfN : Fr (fun k => bm ≤ k) v_12 (v_12.setCell ⟨bm, 2, none⟩ (.slice A3 (q + 1) c3)) := Fr.setCell (S := fun k => bm ≤ k) (Fr.refl _ _) (.inr (Nat.le_refl bm)) _
            have hHeld := hHeld.trans hfN
            have hz_16 := hfN.size
            refine hK.out _ _ hHeld (fun _ => ?_)
            clear hK K hfN
            try simp only [Act.put, List.setIfInBounds_toArray, List.set_cons_zero, List.set_cons_succ]
            refine wpAnyH_done (by kernel_rfl) ?_ _
            have hend := HTn.out.fr hHeld (by rw [heap_setCell_same _ _ _ _ _ _ bk_13.out]; rfl) (HG3.out.frG (Fr.setCell (S := fun k => k = bm) (Fr.refl _ _) (.inr rfl) _) (Nat.lt_succ_self bm)) Hsn.out
            have Hend := Lib.hid hend
            clear hend HG3 hHeld
            go_wp2_with fail
            go_roundw
            case rel => exact ⟨i + 1, A3, c3, by omega, by go_num, by have := Hend.out; rw [Hq.out, Nat.add_assoc] at this; rw [Hq.out]; exact this⟩
            case measure => simp [intOf]; omega
          · go_simp
            have hh := rat_any m.r m.c P m.l.length p m.l (i : Int) (j : Int) v_1 (HSr.out.fr hHeld (fun b o hn hA hk => by have hk : bm ≤ b := hk; have := HSr0.out.lt (by decide) hn hA; omega))
            refine hh.mono ?_; clear hh; rintro e v_17 ⟨rfl, hbN⟩
            rw [atR_in HM.out hi hj, ← Hx.out]
            have hfN : Fr (fun k => bm ≤ k) v_1 v_17 := Fr.of_below hbN
            have bk_18 := Lib.hid ((hbN.block _ (block_lt BK0.out)).trans BK0.out)
            have HGr5 := Lib.hid (HGr.out.below hbN)
            clear hbN
            go_wp2_with fail
            have hHeld := hHeld.trans hfN
            have hz_19 := hfN.size
            refine hK.out _ _ hHeld (fun _ => ?_)
            clear hK K hfN
            try simp only [Act.put, List.setIfInBounds_toArray, List.set_cons_zero, List.set_cons_succ]
            refine wpAnyH_ready (rs := [1, 6]) (by kernel_rfl) (by simp) ?_
            refine AllReadyH.cons (o := ⟨some 24, _, _, _, _, _⟩) rfl (fun K hK => ?_) (AllReadyH.cons (o := ⟨some 29, _, _, _, _, _⟩) rfl (fun K hK => ?_) (AllReadyH.nil))
            · have qq := boxM_2 bk_18.out
              go_simp
              refine hK.out _ _ hHeld (fun _ => ?_)
              clear hK K
              try simp only [Act.put, List.setIfInBounds_toArray, List.set_cons_zero, List.set_cons_succ]
              refine wpAnyH_ready (rs := [6]) (by kernel_rfl) (by simp) ?_
              refine AllReadyH.cons (o := ⟨some 29, _, _, _, _, _⟩) rfl (fun K hK => ?_) (AllReadyH.nil)
              go_simp
              have hx := Sl.one v_17 5 x (x.toNat : Int) rfl
              have hbB : Below v_17.heap.size v_17 (v_17.alloc (.cells #[.int .u8 (x.toNat : Int)] 5)) := (Below.refl _ _).alloc (Nat.le_refl _) _
              have hfN : Fr (fun k => bm ≤ k) v_17 (v_17.alloc (.cells #[.int .u8 (x.toNat : Int)] 5)) := Fr.of_below hbB
              have bk_21 := Lib.hid ((hbB.block _ (block_lt bk_18.out)).trans bk_18.out)
              have HGr6 := Lib.hid (HGr5.out.below hbB)
              clear hbB
              obtain ⟨xb, hxb⟩ : ∃ xb, xb = v_17.heap.size := ⟨_, rfl⟩
              obtain ⟨v_20, hw⟩ : ∃ v_20, v_20 = v_17.alloc (.cells #[.int .u8 (x.toNat : Int)] 5) := ⟨_, rfl⟩
              rw [← hw] at hfN hx bk_21 HGr6 ⊢
              rw [← hxb] at hx ⊢
              clear hw hxb
              have HX := Lib.hid hx; clear hx
              have hHeld := hHeld.trans hfN
              have hz_22 := hfN.size
              refine hK.out _ _ hHeld (fun _ => ?_)
              clear hK K hfN
              try simp only [Act.put, List.setIfInBounds_toArray, List.set_cons_zero, List.set_cons_succ]
              refine wpAnyH_ready (rs := [7]) (by kernel_rfl) (by simp) ?_
              refine AllReadyH.cons (o := ⟨some 30, _, _, _, _, _⟩) rfl (fun K hK => ?_) (AllReadyH.nil)
              have hbml := block_lt bk_21.out
              refine step_append_b (B := bm + 1) rfl (.tmp 24) (.tmp 29) rfl rfl HGr6.out.own (by omega) (some ⟨xb, 0, none⟩) 1 1 [x] rfl HX.out (by omega) ?_
              intro A3 c3 v_23 ho3 hb3 hrow3
              have hfN : Fr (fun k => bm ≤ k) v_20 v_23 := Fr.of_belowAt hb3 (fun k hk => by show bm ≤ k; omega)
              have HG3 := Lib.hid (show Grow v_23 (bm + 1) A3 (q + 1) c3 (l.take q ++ [x]) from ⟨by rw [cells_append]; exact ho3, fun _ => by rw [cells_append]; exact hrow3 (by omega)⟩)
              have bk_24 := Lib.hid ((hb3.block bm (by omega)).trans bk_21.out)
              clear ho3 hrow3 hb3 HX
              have hHeld := hHeld.trans hfN
              have hz_25 := hfN.size
              refine hK.out _ _ hHeld (fun _ => ?_)
              clear hK K hfN
              try simp only [Act.put, List.setIfInBounds_toArray, List.set_cons_zero, List.set_cons_succ]
              refine wpAnyH_take (i := 8) (oi := ⟨some 31, _, _, _, _, _⟩) (v := ?vg8_26) rfl (by kernel_rfl) (by kernel_rfl) (by kernel_rfl) (fun _ _ _ h => h) (Or.inl ⟨by rfl, ?yg8_26⟩) hHeld ?rg8_26
              case yg8_26 =>
                intro wq hSw
                (try dsimp only at hSw)
                first | (go_simp; done) | (go_simp; with_reducible rfl)
              try simp only [Act.put, List.setIfInBounds_toArray, List.set_cons_zero, List.set_cons_succ]
              refine wpAnyH_ready (rs := [9]) (by kernel_rfl) (by simp) ?_
              refine AllReadyH.cons (o := ⟨none, _, _, _, _, _⟩) rfl (fun K hK => ?_) (AllReadyH.nil)
              have qq := boxM_2 bk_24.out
              have uu := boxM_free bk_24.out 2
              go_simp
              have hfN : Fr (fun k => bm ≤ k) v_23 (v_23.setCell ⟨bm, 2, none⟩ (.slice A3 (q + 1) c3)) := Fr.setCell (S := fun k => bm ≤ k) (Fr.refl _ _) (.inr (Nat.le_refl bm)) _
              have hHeld := hHeld.trans hfN
              have hz_27 := hfN.size
              refine hK.out _ _ hHeld (fun _ => ?_)
              clear hK K hfN
              try simp only [Act.put, List.setIfInBounds_toArray, List.set_cons_zero, List.set_cons_succ]
              refine wpAnyH_done (by kernel_rfl) ?_ _
              have hend := HTn.out.fr hHeld (by rw [heap_setCell_same _ _ _ _ _ _ bk_24.out]; rfl) (HG3.out.frG (Fr.setCell (S := fun k => k = bm) (Fr.refl _ _) (.inr rfl) _) (Nat.lt_succ_self bm)) Hsn.out
              have Hend := Lib.hid hend
              clear hend HG3 hHeld
              go_wp2_with fail
              go_roundw
              case rel => exact ⟨i + 1, A3, c3, by omega, by go_num, by have := Hend.out; rw [Hq.out, Nat.add_assoc] at this; rw [Hq.out]; exact this⟩
              case measure => simp [intOf]; omega
            · go_simp
              have hx := Sl.one v_17 5 x (x.toNat : Int) rfl
              have hbB : Below v_17.heap.size v_17 (v_17.alloc (.cells #[.int .u8 (x.toNat : Int)] 5)) := (Below.refl _ _).alloc (Nat.le_refl _) _
              have hfN : Fr (fun k => bm ≤ k) v_17 (v_17.alloc (.cells #[.int .u8 (x.toNat : Int)] 5)) := Fr.of_below hbB
              have bk_29 := Lib.hid ((hbB.block _ (block_lt bk_18.out)).trans bk_18.out)
              have HGr6 := Lib.hid (HGr5.out.below hbB)
              clear hbB
              obtain ⟨xb, hxb⟩ : ∃ xb, xb = v_17.heap.size := ⟨_, rfl⟩
              obtain ⟨v_28, hw⟩ : ∃ v_28, v_28 = v_17.alloc (.cells #[.int .u8 (x.toNat : Int)] 5) := ⟨_, rfl⟩
              rw [← hw] at hfN hx bk_29 HGr6 ⊢
              rw [← hxb] at hx ⊢
              clear hw hxb
              have HX := Lib.hid hx; clear hx
              have hHeld := hHeld.trans hfN
              have hz_30 := hfN.size
              refine hK.out _ _ hHeld (fun _ => ?_)
              clear hK K hfN
              try simp only [Act.put, List.setIfInBounds_toArray, List.set_cons_zero, List.set_cons_succ]
              refine wpAnyH_ready (rs := [1]) (by kernel_rfl) (by simp) ?_
              refine AllReadyH.cons (o := ⟨some 24, _, _, _, _, _⟩) rfl (fun K hK => ?_) (AllReadyH.nil)
              have qq := boxM_2 bk_29.out
              go_simp
              refine hK.out _ _ hHeld (fun _ => ?_)
              clear hK K
              try simp only [Act.put, List.setIfInBounds_toArray, List.set_cons_zero, List.set_cons_succ]
              refine wpAnyH_ready (rs := [7]) (by kernel_rfl) (by simp) ?_
              refine AllReadyH.cons (o := ⟨some 30, _, _, _, _, _⟩) rfl (fun K hK => ?_) (AllReadyH.nil)
              have hbml := block_lt bk_29.out
              refine step_append_b (B := bm + 1) rfl (.tmp 24) (.tmp 29) rfl rfl HGr6.out.own (by omega) (some ⟨xb, 0, none⟩) 1 1 [x] rfl HX.out (by omega) ?_
              intro A3 c3 v_31 ho3 hb3 hrow3
              have hfN : Fr (fun k => bm ≤ k) v_28 v_31 := Fr.of_belowAt hb3 (fun k hk => by show bm ≤ k; omega)
              have HG3 := Lib.hid (show Grow v_31 (bm + 1) A3 (q + 1) c3 (l.take q ++ [x]) from ⟨by rw [cells_append]; exact ho3, fun _ => by rw [cells_append]; exact hrow3 (by omega)⟩)
              have bk_32 := Lib.hid ((hb3.block bm (by omega)).trans bk_29.out)
              clear ho3 hrow3 hb3 HX
              have hHeld := hHeld.trans hfN
              have hz_33 := hfN.size
              refine hK.out _ _ hHeld (fun _ => ?_)
              clear hK K hfN
              try simp only [Act.put, List.setIfInBounds_toArray, List.set_cons_zero, List.set_cons_succ]
              refine wpAnyH_take (i := 8) (oi := ⟨some 31, _, _, _, _, _⟩) (v := ?vg8_34) rfl (by kernel_rfl) (by kernel_rfl) (by kernel_rfl) (fun _ _ _ h => h) (Or.inl ⟨by rfl, ?yg8_34⟩) hHeld ?rg8_34
              case yg8_34 =>
                intro wq hSw
                (try dsimp only at hSw)
                first | (go_simp; done) | (go_simp; with_reducible rfl)
              try simp only [Act.put, List.setIfInBounds_toArray, List.set_cons_zero, List.set_cons_succ]
              refine wpAnyH_ready (rs := [9]) (by kernel_rfl) (by simp) ?_
              refine AllReadyH.cons (o := ⟨none, _, _, _, _, _⟩) rfl (fun K hK => ?_) (AllReadyH.nil)
              have qq := boxM_2 bk_32.out
              have uu := boxM_free bk_32.out 2
              go_simp
              have hfN : Fr (fun k => bm ≤ k) v_31 (v_31.setCell ⟨bm, 2, none⟩ (.slice A3 (q + 1) c3)) := Fr.setCell (S := fun k => bm ≤ k) (Fr.refl _ _) (.inr (Nat.le_refl bm)) _
              have hHeld := hHeld.trans hfN
              have hz_35 := hfN.size
              refine hK.out _ _ hHeld (fun _ => ?_)
              clear hK K hfN
              try simp only [Act.put, List.setIfInBounds_toArray, List.set_cons_zero, List.set_cons_succ]
              refine wpAnyH_done (by kernel_rfl) ?_ _
              have hend := HTn.out.fr hHeld (by rw [heap_setCell_same _ _ _ _ _ _ bk_32.out]; rfl) (HG3.out.frG (Fr.setCell (S := fun k => k = bm) (Fr.refl _ _) (.inr rfl) _) (Nat.lt_succ_self bm)) Hsn.out
              have Hend := Lib.hid hend
              clear hend HG3 hHeld
              go_wp2_with fail
              go_roundw
              case rel => exact ⟨i + 1, A3, c3, by omega, by go_num, by have := Hend.out; rw [Hq.out, Nat.add_assoc] at this; rw [Hq.out]; exact this⟩
              case measure => simp [intOf]; omega
        · obtain rfl : i = R := by omega
          have db : decide ((i : Int) < m.r) = false := by have := Hg.out.1; simp; omega
          go_wp2_with fail
          go_roundw
          case rel => exact ⟨j + 1, A, c, by omega, by go_num, by rw [Nat.add_mul, Nat.one_mul]; exact Hin.out⟩
          case measure => simp [intOf]; omega
    · obtain rfl : j = C := by omega
      have da : decide ((j : Int) < m.c) = false := by have := Hg.out.2; simp; omega
      have m0 := boxM_0 Hin.out.v; have m1 := boxM_1 Hin.out.v; have m2 := boxM_2 Hin.out.v
      have x0 := box0_0 Hin.out.b1; have x1 := box0_1 Hin.out.b1; have x2 := box0_2 Hin.out.b1
      have y0 := box0_free Hin.out.b1 0; have y1 := box0_free Hin.out.b1 1; have y2 := box0_free Hin.out.b1 2
      go_wp2_with fail
      refine bodyPost_ret (results_cell_row Try.results26 _ _ (w.heap.size + 1) 24 _ (0, 0) _ rfl (box0_set Hin.out.b1) Try.underlying24 rfl size_matrix) rfl ?_
      have hq := box0_fr wr (w.heap.size + 1) m.c m.r A (j * R) c
      have hgr := (Hin.out.grow.frG hq (by omega)).lower (B' := w.heap.size) (by omega)
      rw [List.take_of_length_le (by rw [Hl.out, tabL_length]; exact Nat.le_refl _)] at hgr
      refine ⟨M3.of j R (fun j' i => mx j m.l i j'), A, c, ?_, ?_, rfl, Hin.out.below.trans (hq.below Hin.out.below.size (fun k hk => by have hk : k = w.heap.size + 1 := hk; omega))⟩
      · rw [Hg.out.1, Hg.out.2, M3.v, M3.of, tabL_length]
      · show Grow _ _ A (tabL j R (fun j' i => mx j m.l i j')).length c (tabL j R (fun j' i => mx j m.l i j'))
        rw [tabL_length, ← Hl.out]
        exact hgr
end Go.Proofs.Ytccnoflgbopjlaa
