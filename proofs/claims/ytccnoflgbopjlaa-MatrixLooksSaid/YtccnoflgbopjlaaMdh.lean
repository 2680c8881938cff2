/-
  Contract of package matrix's reduce. Condition: the field is one that New made, its tables are made.
-/
import Derived.Test.YtccnoflgbopjlaaMdg
import Derived.BigRegion
namespace Go.Proofs.Ytccnoflgbopjlaa
open Go.RowKit Go.Proofs
set_option linter.unusedVariables false

/-- The tables' block, or the rows'. -/
abbrev Tg (T g : Nat) : Nat → Prop := fun k => k = T ∨ k = g

set_option maxRecDepth 20000 in
set_option maxHeartbeats 3200000 in
theorem reduce_any (F T g n W cols : Nat) (hn : n ≤ 255) (hW : W ≤ 510) (hcols : cols ≤ W) (A : Mx) (w : World) (hf : Fld1 w F T) (hr : RowsAt w g n W (Tg T g) A) (hgT : g ≠ T) (hgF : g ≠ F) :
    Calls Try.prog 43 #[.pointer (some ⟨F, 0, none⟩), .slice (some ⟨g, 0, none⟩) n n, .int .i64 (cols : Int)] w
      fun e w' => ∃ (L : Nat) (M : Mx) (ld : Nat → Nat), e = .returned (.int .i64 (L : Int)) ∧ Led n W cols A M L ld ∧ RowsAt w' g n W (Tg T g) M ∧ Fld1 w' F T ∧ Fr (Tg T g) w w' := by
  have Hf := Lib.hid hf; clear hf
  have Hr := Lib.hid hr; clear hr
  go_enter Try.func43, Try.ntmps43
  go_wp2_with fail
  go_loopw [7, 15] (fun v i wr => ∃ (c L : Nat) (M : Mx) (ld : Nat → Nat), c ≤ cols ∧ i = .int .i64 (c : Int) ∧ v = .int .i64 (L : Int) ∧ Led n W c A M L ld ∧ RowsAt wr g n W (Tg T g) M ∧ Fld1 wr F T ∧ Fr (Tg T g) w wr) (fun _ i _ => cols - (intOf i).toNat)
  case atStart => exact ⟨0, 0, A, id, by omega, rfl, rfl, Led.start n W A, Hr.out, Hf.out, Fr.refl _ _⟩
  case round =>
    obtain ⟨c, L, M, ld, hc, rfl, rfl, hled, hrow, hfl, hfr⟩ := hrel
    have hLn := hled.le
    have hgl := hrow.lt
    have hTl := hfl.fld.ltT
    have hFl := hfl.fld.ltF
    have Hled := Lib.hid hled; clear hled
    have Hrow := Lib.hid hrow; clear hrow
    have Hfl := Lib.hid hfl; clear hfl
    have Hfr := Lib.hid hfr; clear hfr
    by_cases hlt : c < cols
    · -- the captured column lies in a block of its own
      have hb1 : Below wr.heap.size wr (wr.alloc (.cells #[.int .i64 (c : Int)] 3)) := (Below.refl _ _).alloc (Nat.le_refl _) _
      have hcol : (wr.alloc (.cells #[.int .i64 (c : Int)] 3)).cell? ⟨wr.heap.size, 0, none⟩ = some (.int .i64 (c : Int)) := by simp
      by_cases hLn2 : L < n
      · have hne : ¬ n = L := by omega
        go_wp2_with fail
        have hh := index_any g n W L (n - L) (n - L) (Tg T g) M wr.heap.size c (by omega) (by omega) (by omega) _ (Hrow.out.later hb1) hcol
        refine hh.mono ?_; clear hh; rintro e w1 ⟨rfl, hcase⟩
        rcases hcase with ⟨rfl, hz⟩ | ⟨d, rfl, hd, hx⟩
        · have Hz := Lib.hid hz; clear hz
          go_wp2_with fail
          go_roundw
          case rel => exact ⟨c + 1, L, M, ld, by omega, by go_num, rfl, Hled.out.skip Hz.out, Hrow.out.later hb1, Hfl.out.later hb1, Hfr.out.trans (Fr.of_below hb1)⟩
          case measure => simp [intOf]; omega
        · obtain ⟨p, hp⟩ : ∃ p, p = L + d := ⟨_, rfl⟩
          rw [← hp] at hd hx
          have hdp : d = p - L := by omega
          have hpi : (L : Int) + (d : Int) = (p : Int) := by omega
          have hpL : L ≤ p := by omega
          have hR1 := Hrow.out.later hb1
          have hf1 := Hfl.out.later hb1
          have hr1 : Fr (Tg T g) w (wr.alloc (.cells #[.int .i64 (c : Int)] 3)) := Hfr.out.trans (Fr.of_below hb1)
          obtain ⟨w1, hw1⟩ : ∃ w1, w1 = wr.alloc (.cells #[.int .i64 (c : Int)] 3) := ⟨_, rfl⟩
          have hs1 : w1.heap.size = wr.heap.size + 1 := by rw [hw1]; simp
          rw [← hw1] at hR1 hf1 hr1 hcol ⊢
          clear hw1 hb1
          obtain ⟨A1, c1, k1, s1, o1⟩ := hR1.cell (i := L) hLn2
          obtain ⟨A2, c2, k2, s2, o2⟩ := hR1.cell (i := p) hd
          have z1 := hR1.free L
          have z2 := hR1.free p
          have Hx := Lib.hid hx; clear hx
          have Hd := Lib.hid hd; clear hdp hp
          have S1 := Lib.hid s1; clear s1
          have S2 := Lib.hid s2; clear s2
          have O1 := Lib.hid o1; clear o1
          have O2 := Lib.hid o2; clear o2
          have HR1 := Lib.hid hR1; clear hR1
          have Hf1 := Lib.hid hf1; clear hf1
          have Hr1 := Lib.hid hr1; clear hr1
          obtain ⟨v9, hzz⟩ := cell?_setCell_some (w := w1) (p := ⟨g, L, none⟩) (x := .slice A2 W c2) (q := ⟨g, p, none⟩) k2
          go_wp2_with fail
          go_region
          have hR2 : RowsAt ((w1.setCell ⟨g, L, none⟩ (.slice A2 W c2)).setCell ⟨g, p, none⟩ (.slice A1 W c1)).drew g n W (Tg T g) (swp M L p) := by
            have a1 := HR1.out.set (.inr rfl) hLn2 S2.out O2.out
            have a2 := a1.set (.inr rfl) Hd.out (A := A1) (c := c1) (f := M L) (S1.out.fr (S := fun k => k = g) (Fr.setCell (S := fun k => k = g) (Fr.refl _ _) (.inr rfl) _) (fun b o hW hA hk => O1.out b o hW hA (.inr hk))) O1.out
            exact a2.drewN 1
          have hf2 : Fld1 ((w1.setCell ⟨g, L, none⟩ (.slice A2 W c2)).setCell ⟨g, p, none⟩ (.slice A1 W c1)).drew F T := Hf1.out.fr (S := fun k => k = g) ((Fr.setCell (S := fun k => k = g) (Fr.setCell (S := fun k => k = g) (Fr.refl _ _) (.inr rfl) _) (.inr rfl) _).drew) (fun e => hgF e.symm) (fun e => hgT e.symm)
          have hr2 : Fr (Tg T g) w ((w1.setCell ⟨g, L, none⟩ (.slice A2 W c2)).setCell ⟨g, p, none⟩ (.slice A1 W c1)).drew := ((Hr1.out.setCell (.inr (.inr rfl)) _).setCell (.inr (.inr rfl)) _).drew
          have hcol2 : ((w1.setCell ⟨g, L, none⟩ (.slice A2 W c2)).setCell ⟨g, p, none⟩ (.slice A1 W c1)).drew.cell? ⟨wr.heap.size, 0, none⟩ = some (.int .i64 (c : Int)) := by
            have hq : Fr (fun k => k = g) w1 ((w1.setCell ⟨g, L, none⟩ (.slice A2 W c2)).setCell ⟨g, p, none⟩ (.slice A1 W c1)).drew := ((Fr.setCell (S := fun k => k = g) (Fr.setCell (S := fun k => k = g) (Fr.refl _ _) (.inr rfl) _) (.inr rfl) _).drew)
            exact hq.cell_some hcol (by simp; omega)
          have hs2 : ((w1.setCell ⟨g, L, none⟩ (.slice A2 W c2)).setCell ⟨g, p, none⟩ (.slice A1 W c1)).drew.heap.size = wr.heap.size + 1 := by simp [hs1]
          obtain ⟨w2, hw2⟩ : ∃ w2, w2 = ((w1.setCell ⟨g, L, none⟩ (.slice A2 W c2)).setCell ⟨g, p, none⟩ (.slice A1 W c1)).drew := ⟨_, rfl⟩
          rw [← hw2] at hR2 hf2 hr2 hcol2 hs2 ⊢
          clear hw2 hzz k1 k2 z1 z2 hcol hs1 S1 S2 O1 O2 HR1 Hf1 Hr1 v9 w1
          obtain ⟨A3, c3, k3, s3, o3⟩ := hR2.cell (i := L) hLn2
          have e3 : swp M L p L = M p := by
            by_cases hh : p = L
            · rw [hh, swp, upd_at]
            · rw [swp, upd_other _ _ (fun e => hh e.symm), upd_at]
          rw [e3] at s3
          have z3 := hR2.free L
          obtain ⟨b3, o3', rfl, hx3a⟩ := s3.at_ (k := c) (by omega)
          have hx3 := hx3a c _ (by rw [cells_get _ c (by rw [rowL_length]; omega)])
          clear hx3a
          rw [show (rowL W (M p))[c]'(by rw [rowL_length]; omega) = M p c from by simp [rowL], bv] at hx3
          have hlim := s3.lim
          unfold maxLen at hlim
          have S3 := Lib.hid s3; clear s3
          have O3 := Lib.hid o3; clear o3
          have HR2 := Lib.hid hR2; clear hR2
          have Hf2 := Lib.hid hf2; clear hf2
          have Hr2 := Lib.hid hr2; clear hr2
          obtain ⟨x, hxx⟩ : ∃ x, x = M p c := ⟨_, rfl⟩
          rw [← hxx] at hx3
          have Hx0 := Lib.hid (show x ≠ 0 from by rw [hxx]; exact Hx.out)
          have Hxx := Lib.hid hxx; clear hxx
          go_wp2_with fail
          go_quiet (first | (go_at_call 50; exact Calls.quiet_of (inv1_any F T x Hx0.out _ (Hf2.out.drewN _))))
          have k4 : (w2.drewN nq).cell? ⟨g, L, none⟩ = some (.slice (some ⟨b3, o3', none⟩) W c3) := k3
          have hs4 : (w2.drewN nq).heap.size = wr.heap.size + 1 := hs2
          have z4 : (w2.drewN nq).frozen? ⟨g, L, none⟩ = false := z3
          have hcol4 : (w2.drewN nq).cell? ⟨wr.heap.size, 0, none⟩ = some (.int .i64 (c : Int)) := hcol2
          have HR4 := Lib.hid (HR2.out.drewN nq)
          have Hf4 := Lib.hid (Hf2.out.drewN nq)
          have Hr4 := Lib.hid (Hr2.out.drewN nq)
          have S4 := Lib.hid (S3.out.drewN nq)
          obtain ⟨w4, hw4⟩ : ∃ w4, w4 = w2.drewN nq := ⟨_, rfl⟩
          rw [← hw4] at k4 hs4 z4 hcol4 HR4 Hf4 Hr4 S4 ⊢
          clear hw4 hx3 k3 z3 hcol2 hs2 S3 HR2 Hf2 Hr2 w2
          go_wp2_with fail
          have hh := scale_any F T (ginv x) (some ⟨b3, o3', none⟩) W c3 (rowL W (M p)) w4 Hf4.out.fld S4.out (fun b o hn hA hk => O3.out b o hn hA (.inl hk)) (by omega)
          refine hh.mono ?_; clear hh; rintro e w5 ⟨hf5, A5, n5, c5, rfl, s5, r5, m5⟩
          rw [rowL_map] at s5 m5
          have hn5 : n5 = W := by have := s5.len; rw [cells_length, rowL_length] at this; omega
          subst hn5
          have hfT : Fr (fun k => k = T) w4 w5 := r5
          have HR5 := Lib.hid (HR4.out.fr r5 hgT (fun b hb => .inl hb))
          have k5 := hfT.cell_some k4 hgT
          have hs5 := r5.size
          have z5 := HR5.out.free L
          have hcol5 := hfT.cell_some hcol4 (by simp; omega)
          have Hr5 := Lib.hid (Hr4.out.trans (r5.mono fun k hk => .inl hk))
          have Hf5 := Lib.hid hf5; clear hf5
          have O5 : ∀ b o, 0 < n5 → A5 = some ⟨b, o, none⟩ → ¬ Tg T g b := fun b o hn hA hk => by
            obtain ⟨g5, cur, hA', hB, _⟩ := m5 hn
            rw [hA] at hA'
            injection hA' with hA'
            injection hA' with hA' _
            rcases hk with hk | hk <;> omega
          have HO5 := Lib.hid O5; clear O5
          have HS5 := Lib.hid s5; clear s5 m5 r5 hfT k4 z4 hcol4 HR4 Hf4 Hr4 S4 O3
          go_wp2_with fail
          have e6 : upd (swp M L p) L (fun k => gm (ginv x) (M p k)) = scl (swp M L p) L (ginv x) := by rw [scl, e3]
          have HR6 := HR5.out.set (.inr rfl) hLn2 HS5.out HO5.out
          rw [e6] at HR6
          have hq6 : Fr (fun k => k = g) w5 (w5.setCell ⟨g, L, none⟩ (.slice A5 n5 c5)) := Fr.setCell (S := fun k => k = g) (Fr.refl _ _) (.inr rfl) _
          have hf6 : Fld1 (w5.setCell ⟨g, L, none⟩ (.slice A5 n5 c5)) F T := Hf5.out.fr hq6 (fun e => hgF e.symm) (fun e => hgT e.symm)
          have hr6 : Fr (Tg T g) w (w5.setCell ⟨g, L, none⟩ (.slice A5 n5 c5)) := Hr5.out.trans (hq6.mono fun k hk => .inr hk)
          have hcol6 := hq6.cell_some hcol5 (by simp; omega)
          have hs6 : wr.heap.size < (w5.setCell ⟨g, L, none⟩ (.slice A5 n5 c5)).heap.size := by simp; omega
          obtain ⟨w6, hw6⟩ : ∃ w6, w6 = w5.setCell ⟨g, L, none⟩ (.slice A5 n5 c5) := ⟨_, rfl⟩
          rw [← hw6] at HR6 hf6 hr6 hcol6 hs6 ⊢
          clear hw6 hq6 k5 hs5 z5 hcol5 hs4 HR5 Hf5 Hr5 HO5 HS5 e6
          obtain ⟨M2, hM2⟩ : ∃ M2, M2 = scl (swp M L p) L (ginv x) := ⟨_, rfl⟩
          rw [← hM2] at HR6
          have HM2 := Lib.hid hM2; clear hM2
          go_wp2_with fail
          go_loopw [67] (fun i wi => ∃ j : Nat, j ≤ n ∧ i = .int .i64 (j : Int) ∧ RowsAt wi g n n5 (Tg T g) (fo M2 L c j) ∧ Fld1 wi F T ∧ Fr (Tg T g) w wi ∧ wi.cell? ⟨wr.heap.size, 0, none⟩ = some (.int .i64 (c : Int)) ∧ wr.heap.size < wi.heap.size) (fun i _ => n - (intOf i).toNat)
          case atStart => exact ⟨0, by omega, rfl, by rw [fo_zero]; exact HR6, hf6, hr6, hcol6, hs6⟩
          case round =>
            obtain ⟨j, hj, rfl, hRj, hfj, hrj, hcolj, hsj⟩ := hrel
            clear HR6 hf6 hr6 hcol6 hs6
            have HRj := Lib.hid hRj; clear hRj
            have Hfj := Lib.hid hfj; clear hfj
            have Hrj := Lib.hid hrj; clear hrj
            by_cases hjn : j < n
            · obtain ⟨Aj, cj, kj, sj, oj⟩ := HRj.out.cell (i := j) hjn
              rw [fo_row _ _ _ _ _ (.inl (Nat.le_refl _))] at sj
              have Sj := Lib.hid sj; clear sj
              have Oj := Lib.hid oj; clear oj
              by_cases hjL : j = L
              · have hd1 : (((j : Nat) : Int) != (L : Int)) = false := by simp [hjL]
                have HjL := Lib.hid hjL; clear hjL
                go_wp2_with fail
                go_roundw
                case rel => exact ⟨j + 1, by omega, by go_num, by rw [fo_skip _ _ _ _ (.inl HjL.out)]; exact HRj.out, Hfj.out, Hrj.out, hcolj, hsj⟩
                case measure => simp [intOf]; omega
              · have hd1 : (((j : Nat) : Int) != (L : Int)) = true := by simp; omega
                obtain ⟨bj, oj', rfl, hxja⟩ := Sj.out.at_ (k := c) (by omega)
                have hxj := hxja c _ (by rw [cells_get _ c (by rw [rowL_length]; omega)])
                clear hxja
                rw [show (rowL n5 (M2 j))[c]'(by rw [rowL_length]; omega) = M2 j c from by simp [rowL], bv] at hxj
                have hlj := Sj.out.lim
                unfold maxLen at hlj
                obtain ⟨y, hyy⟩ : ∃ y, y = M2 j c := ⟨_, rfl⟩
                rw [← hyy] at hxj
                have Hyy := Lib.hid hyy; clear hyy
                by_cases hy0 : y = 0
                · have hd2 : ((y.toNat : Int) != 0) = false := by rw [hy0]; rfl
                  have Hy0 := Lib.hid hy0; clear hy0
                  go_wp2_with fail
                  go_roundw
                  case rel => exact ⟨j + 1, by omega, by go_num, by rw [fo_skip _ _ _ _ (.inr (by rw [← Hyy.out]; exact Hy0.out))]; exact HRj.out, Hfj.out, Hrj.out, hcolj, hsj⟩
                  case measure => simp [intOf]; omega
                · have hd2 : ((y.toNat : Int) != 0) = true := by rw [u8_bne0]; simpa using hy0
                  obtain ⟨Al, cl, kl, sl, ol⟩ := HRj.out.cell (i := L) hLn2
                  rw [fo_row _ _ _ _ _ (.inr rfl)] at sl
                  have zj := HRj.out.free j
                  have Hfd := Lib.hid (Hfj.out.fld.later (w' := wr.drew) (Below.drew (Below.refl _ _)))
                  have Sjd := Lib.hid Sj.out.drew
                  have Sld := Lib.hid sl.drew; clear sl
                  have Ol := Lib.hid ol; clear ol
                  clear hy0
                  go_wp2_with fail
                  go_region_with (go_at_call 62; have hh := fold_any F T y Al n5 cl (rowL n5 (M2 L)) (some ⟨bj, oj', none⟩) n5 cj (rowL n5 (M2 j)) wr.drew Hfd.out Sld.out (fun b o hn hA hk => Ol.out b o hn hA (.inl hk)) Sjd.out (fun b o hn hA hk => Oj.out b o hn hA (.inl hk)) (by omega); refine hh.mono ?_; clear hh; rintro e w7 ⟨hf7, A7, n7, c7, rfl, s7, r7, m7⟩; have k7 := (show Fr (fun k => k = T) wr.drew w7 from r7).cell_some (show wr.drew.cell? ⟨g, j, none⟩ = some (.slice (some ⟨bj, oj', none⟩) n5 cj) from kj) hgT; have z7 := (HRj.out.drewN 1 |>.fr r7 hgT (fun b hb => .inl hb)).free j)
                  all_goals
                    rw [rowL_fld] at s7 m7
                    have hn7 : n7 = n5 := by have := s7.len; rw [cells_length, rowL_length] at this; omega
                    subst hn7
                    have hs7 := r7.size
                    have hs7' : wr.drew.heap.size = wr.heap.size := rfl
                    have O7 : ∀ b o, 0 < n7 → A7 = some ⟨b, o, none⟩ → ¬ Tg T g b := fun b o hn hA hk => by
                      obtain ⟨g7, cur, hA', hB, _⟩ := m7 hn
                      rw [hA] at hA'
                      injection hA' with hA'
                      injection hA' with hA' _
                      have := HRj.out.lt
                      have := Hfj.out.fld.ltT
                      rcases hk with hk | hk <;> omega
                    have hRn := (HRj.out.drewN 1 |>.fr r7 hgT (fun b hb => .inl hb)).set (.inr rfl) hjn s7 O7
                    have en : upd (fo M2 L c j) j (fun k => M2 j k ^^^ gm y (M2 L k)) = fo M2 L c (j + 1) := by
                      rw [fo_next, Hyy.out]
                      simp only [ne_eq, hjL, not_false_eq_true, if_true]
                    rw [en] at hRn
                    have hq7 : Fr (fun k => k = g) w7 (w7.setCell ⟨g, j, none⟩ (.slice A7 n7 c7)) := Fr.setCell (S := fun k => k = g) (Fr.refl _ _) (.inr rfl) _
                    have hr7 := (Hrj.out.drew.trans (r7.mono fun k hk => .inl hk)).trans (hq7.mono fun k hk => .inr hk)
                    have hc7 := hq7.cell_some ((show Fr (fun k => k = T) wr.drew w7 from r7).cell_some (show wr.drew.cell? _ = _ from hcolj) (by simp; omega)) (by simp; omega)
                    have hf7' := hf7.fr hq7 (fun e => hgF e.symm) (fun e => hgT e.symm)
                    have Hend := Lib.hid (And.intro hRn (And.intro hf7' (And.intro hr7 hc7)))
                    clear hRn hf7' hr7 hc7 hq7 O7 s7 m7 hf7 k7 z7
                    go_wp2_with fail
                    go_roundw
                    case rel => exact ⟨j + 1, by omega, by go_num, Hend.out.1, Hend.out.2.1, Hend.out.2.2.1, Hend.out.2.2.2, by simp; omega⟩
                    case measure => simp [intOf]; omega
            · obtain rfl : j = n := by omega
              go_wp2_with fail
              go_roundw
              case rel => exact ⟨c + 1, L + 1, stp j M L c p (ginv (M p c)), _, by omega, by go_num, by go_num, Hled.out.next hpL hd Hx.out, by have := HRj.out; rw [HM2.out, Hxx.out] at this; exact this, Hfj.out, Hrj.out⟩
              case measure => simp [intOf]; omega
      · obtain rfl : L = n := by omega
        go_wp2_with fail
        refine (indexE_any _ _ _ _).mono ?_; rintro e w1 ⟨rfl, rfl⟩
        go_wp2_with fail
        go_roundw
        case rel => exact ⟨c + 1, L, M, ld, by omega, by go_num, rfl, Hled.out.skip (fun i h1 h2 => absurd h1 (by omega)), Hrow.out.later hb1, Hfl.out.later hb1, Hfr.out.trans (Fr.of_below hb1)⟩
        case measure => simp [intOf]; omega
    · obtain rfl : c = cols := by omega
      go_wp2_with fail
      go_ret
      exact ⟨L, M, ld, rfl, Hled.out, Hrow.out, Hfl.out, Hfr.out⟩
end Go.Proofs.Ytccnoflgbopjlaa
