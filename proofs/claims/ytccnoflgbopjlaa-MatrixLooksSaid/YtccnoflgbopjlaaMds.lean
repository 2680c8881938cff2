/-
  Contracts of package matrix's Cauchy. Condition: the field is one that New made.
-/
import Derived.Test.YtccnoflgbopjlaaMdr
import Derived.Test.YtccnoflgbopjlaaMdk
import Derived.Outline
namespace Go.Proofs.Ytccnoflgbopjlaa
open Go.RowKit Go.Proofs
set_option linter.unusedVariables false

/-- The world of Cauchy behind its boxes. -/
def cauW (w : World) (f x y : Value) : World :=
  (((w.alloc (.cells #[f] 39)).alloc (.cells #[x] 22)).alloc (.cells #[y] 22)).alloc (.cells #[.int .i64 0, .int .i64 0, .slice none 0 0] 24)
section
variable (w : World) (f x y : Value)
theorem cauW_size : (cauW w f x y).heap.size = w.heap.size + 4 := by simp [cauW]
theorem cauW_below : Below w.heap.size w (cauW w f x y) := ((((Below.refl _ _).alloc (Nat.le_refl _) _).alloc (by simp) _).alloc (by simp; omega) _).alloc (by simp; omega) _
theorem cauW_0 : (cauW w f x y).heap[w.heap.size]? = some (.cells #[f] 39 (0, 0)) :=
  (Below.heap_alloc _ _ _ (by first | (simp; done) | (simp; omega))).trans ((Below.heap_alloc _ _ _ (by first | (simp; done) | (simp; omega))).trans (alloc2_old w _ _))
theorem cauW_1 : (cauW w f x y).heap[w.heap.size + 1]? = some (.cells #[x] 22 (0, 0)) :=
  (Below.heap_alloc _ _ _ (by first | (simp; done) | (simp; omega))).trans ((Below.heap_alloc _ _ _ (by first | (simp; done) | (simp; omega))).trans (alloc2_new w _ _))
theorem cauW_2 : (cauW w f x y).heap[w.heap.size + 2]? = some (.cells #[y] 22 (0, 0)) := by
  refine (Below.heap_alloc _ _ _ (by simp)).trans ?_
  have := alloc2_new (w.alloc (.cells #[f] 39)) (.cells #[x] 22) (.cells #[y] 22)
  rwa [show (w.alloc (.cells #[f] 39)).heap.size + 1 = w.heap.size + 2 from by simp] at this
theorem cauW_3 : (cauW w f x y).heap[w.heap.size + 3]? = some box0 := by
  have := alloc2_new ((w.alloc (.cells #[f] 39)).alloc (.cells #[x] 22)) (.cells #[y] 22) box0
  rwa [show ((w.alloc (.cells #[f] 39)).alloc (.cells #[x] 22)).heap.size + 1 = w.heap.size + 3 from by simp] at this
end
/-- A world of Cauchy's in which the field is made and the boxes lie. -/
structure CauAt (w0 w : World) (F T : Nat) (x y : Value) : Prop where
  fr : Fr (Ft T) w0 w
  fld : Fld1 w F T
  size : w0.heap.size + 4 ≤ w.heap.size
  b0 : w.heap[w0.heap.size]? = some (.cells #[.pointer (some ⟨F, 0, none⟩)] 39 (0, 0))
  b1 : w.heap[w0.heap.size + 1]? = some (.cells #[x] 22 (0, 0))
  b2 : w.heap[w0.heap.size + 2]? = some (.cells #[y] 22 (0, 0))
  b3 : w.heap[w0.heap.size + 3]? = some box0
theorem CauAt.later {w0 w w' : World} {F T : Nat} {x y : Value} (h : CauAt w0 w F T x y) (hb : Below w.heap.size w w') : CauAt w0 w' F T x y :=
  ⟨h.fr.trans (Fr.of_below hb), h.fld.later hb, Nat.le_trans h.size hb.size, (hb.block _ (block_lt h.b0)).trans h.b0, (hb.block _ (block_lt h.b1)).trans h.b1, (hb.block _ (block_lt h.b2)).trans h.b2, (hb.block _ (block_lt h.b3)).trans h.b3⟩
theorem CauAt.start {w w1 : World} {F T : Nat} {x y : Value} (hT : T < w.heap.size) (hf : Fld1 w1 F T) (hr : Fr (Ft T) (cauW w (.pointer (some ⟨F, 0, none⟩)) x y) w1) : CauAt w w1 F T x y :=
  ⟨(Fr.of_below (cauW_below w _ x y)).trans hr, hf, by have := hr.size; rw [cauW_size] at this; exact this,
    hr.row_some (cauW_0 w _ x y) (by show ¬ _ = T; omega), hr.row_some (cauW_1 w _ x y) (by show ¬ _ = T; omega), hr.row_some (cauW_2 w _ x y) (by show ¬ _ = T; omega), hr.row_some (cauW_3 w _ x y) (by show ¬ _ = T; omega)⟩
/-- A result that is nothing, stored into its box. -/
theorem CauAt.no {w0 w : World} {F T : Nat} {x y : Value} (h : CauAt w0 w F T x y) (hT : T < w0.heap.size) (hF : F < w0.heap.size) (r c : Int) (A : Option Addr) (n cp : Nat) :
    Fld1 (((w.setCell ⟨w0.heap.size + 3, 0, none⟩ (.int .i64 r)).setCell ⟨w0.heap.size + 3, 1, none⟩ (.int .i64 c)).setCell ⟨w0.heap.size + 3, 2, none⟩ (.slice A n cp)) F T ∧ Fr (Ft T) w0 (((w.setCell ⟨w0.heap.size + 3, 0, none⟩ (.int .i64 r)).setCell ⟨w0.heap.size + 3, 1, none⟩ (.int .i64 c)).setCell ⟨w0.heap.size + 3, 2, none⟩ (.slice A n cp)) := by
  have hq := box0_fr w (w0.heap.size + 3) r c A n cp
  exact ⟨h.fld.fr hq (by show ¬ F = _; omega) (by show ¬ T = _; omega), h.fr.andNew hq (fun i hi hk => by have hk : i = _ := hk; omega)⟩

set_option maxRecDepth 20000 in
set_option maxHeartbeats 1600000 in
theorem cauchy_no (F T : Nat) (A1 : Option Addr) (n1 c1 : Nat) (l1 : List UInt8) (A2 : Option Addr) (n2 c2 : Nat) (l2 : List UInt8) (w : World) (h : Fld w F T) (s1 : MxAt w T A1 n1 c1 l1) (s2 : MxAt w T A2 n2 c2 l2)
    (hno : ¬ (fitsB n1 = true ∧ fitsB n2 = true ∧ twiceB (l1 ++ l2) = false)) :
    Calls Try.prog 28 #[.pointer (some ⟨F, 0, none⟩), .slice A1 n1 c1, .slice A2 n2 c2] w (OnFld F T w (NoMx 2)) := by
  have hT := h.ltT
  have hF := h.ltF
  have hhM := mmade_any F T (cauW w (.pointer (some ⟨F, 0, none⟩)) (.slice A1 n1 c1) (.slice A2 n2 c2)) (h.later (cauW_below w _ _ _))
  have S1 := Lib.hid s1; clear s1
  have S2 := Lib.hid s2; clear s2
  have Hno := Lib.hid hno; clear hno
  by_cases h1 : fitsB n1 = true
  · by_cases h2 : fitsB n2 = true
    · have h3 : twiceB (l1 ++ l2) = true := by
        rcases Bool.eq_false_or_eq_true (twiceB (l1 ++ l2)) with h3 | h3
        · exact h3
        · exact absurd ⟨h1, h2, h3⟩ Hno.out
      have g1 := of_decide_eq_true h1
      have g2 := of_decide_eq_true h2
      have H3 := Lib.hid h3; clear h3
      clear h1 h2
      go_enter Try.func28, Try.ntmps28
      go_wp2_with fail
      refine hhM.mono ?_; clear hhM; rintro e w1 ⟨rfl, hf1, r1⟩
      have I1 := Lib.hid (CauAt.start hT hf1 r1)
      have M1 := Lib.hid ((S1.out.later (cauW_below w (.pointer (some ⟨F, 0, none⟩)) (.slice A1 n1 c1) (.slice A2 n2 c2))).fr r1)
      have M2 := Lib.hid ((S2.out.later (cauW_below w (.pointer (some ⟨F, 0, none⟩)) (.slice A1 n1 c1) (.slice A2 n2 c2))).fr r1)
      clear hf1 r1
      have a1 := cell_of_one I1.out.b1; have a2 := cell_of_one I1.out.b2
      go_wp2_with fail
      refine (fits_yes (n1 : Int) g1.1 g1.2 _).mono ?_; rintro e w2 ⟨rfl, rfl⟩
      go_wp2_with fail
      refine (fits_yes (n2 : Int) g2.1 g2.2 _).mono ?_; rintro e w2 ⟨rfl, rfl⟩
      go_wp2_with fail
      refine (twice_any A1 n1 c1 l1 A2 n2 c2 l2 (by omega) (by omega) (by omega) (by omega) _ M1.out.sl M2.out.sl).mono ?_; rintro e w2 ⟨rfl, hb2⟩
      rw [H3.out]
      have I3 := Lib.hid (I1.out.later hb2); clear hb2 a1 a2
      have x0 := box0_0 I3.out.b3; have x1 := box0_1 I3.out.b3; have x2 := box0_2 I3.out.b3
      have y0 := box0_free I3.out.b3 0; have y1 := box0_free I3.out.b3 1; have y2 := box0_free I3.out.b3 2
      clear h
      go_wp2_with fail
      refine bodyPost_ret (results_cell_pair Try.results28 _ _ (w.heap.size + 3) 24 _ (0, 0) _ rfl (box0_set I3.out.b3) Try.underlying24 rfl size_matrix) rfl ?_
      exact ⟨rfl, I3.out.no hT hF 0 0 none 0 0⟩
    · have g1 := of_decide_eq_true h1
      have g2 : ¬ (1 ≤ (n2 : Int) ∧ (n2 : Int) ≤ 255) := fun hh => h2 (decide_eq_true hh)
      clear h1 h2
      go_enter Try.func28, Try.ntmps28
      go_wp2_with fail
      refine hhM.mono ?_; clear hhM; rintro e w1 ⟨rfl, hf1, r1⟩
      have I1 := Lib.hid (CauAt.start hT hf1 r1)
      clear hf1 r1
      have a1 := cell_of_one I1.out.b1; have a2 := cell_of_one I1.out.b2
      go_wp2_with fail
      refine (fits_yes (n1 : Int) g1.1 g1.2 _).mono ?_; rintro e w2 ⟨rfl, rfl⟩
      go_wp2_with fail
      refine (fits_no (n2 : Int) (by omega) _).mono ?_; rintro e w2 ⟨rfl, rfl⟩
      clear a1 a2
      have x0 := box0_0 I1.out.b3; have x1 := box0_1 I1.out.b3; have x2 := box0_2 I1.out.b3
      have y0 := box0_free I1.out.b3 0; have y1 := box0_free I1.out.b3 1; have y2 := box0_free I1.out.b3 2
      clear h
      go_wp2_with fail
      refine bodyPost_ret (results_cell_pair Try.results28 _ _ (w.heap.size + 3) 24 _ (0, 0) _ rfl (box0_set I1.out.b3) Try.underlying24 rfl size_matrix) rfl ?_
      exact ⟨rfl, I1.out.no hT hF 0 0 none 0 0⟩
  · have g1 : ¬ (1 ≤ (n1 : Int) ∧ (n1 : Int) ≤ 255) := fun hh => h1 (decide_eq_true hh)
    clear h1
    go_enter Try.func28, Try.ntmps28
    go_wp2_with fail
    refine hhM.mono ?_; clear hhM; rintro e w1 ⟨rfl, hf1, r1⟩
    have I1 := Lib.hid (CauAt.start hT hf1 r1)
    clear hf1 r1
    have a1 := cell_of_one I1.out.b1; have a2 := cell_of_one I1.out.b2
    go_wp2_with fail
    refine (fits_no (n1 : Int) (by omega) _).mono ?_; rintro e w2 ⟨rfl, rfl⟩
    clear a1 a2
    have x0 := box0_0 I1.out.b3; have x1 := box0_1 I1.out.b3; have x2 := box0_2 I1.out.b3
    have y0 := box0_free I1.out.b3 0; have y1 := box0_free I1.out.b3 1; have y2 := box0_free I1.out.b3 2
    clear h
    go_wp2_with fail
    refine bodyPost_ret (results_cell_pair Try.results28 _ _ (w.heap.size + 3) 24 _ (0, 0) _ rfl (box0_set I1.out.b3) Try.underlying24 rfl size_matrix) rfl ?_
    exact ⟨rfl, I1.out.no hT hF 0 0 none 0 0⟩

theorem enters_cau1 : ∀ args w, (callFunc 49 args).run Try.prog w = .ok (.enter 49 args) w := enters_of Try.func49 (by kernel_rfl) rfl
set_option maxRecDepth 20000 in
set_option maxHeartbeats 1600000 in
theorem cauc_any (F T bf b1 b2 : Nat) (A1 : Option Addr) (n1 c1 : Nat) (l1 : List UInt8) (A2 : Option Addr) (n2 c2 : Nat) (l2 : List UInt8) (i j : Nat) (hi : i < n1) (hj : j < n2) (hn1 : n1 ≤ 255) (hn2 : n2 ≤ 255) (w : World) (hf : Fld1 w F T) (s1 : Sl w 1 A1 n1 c1 (cells l1)) (s2 : Sl w 1 A2 n2 c2 (cells l2))
    (hne : l1.getD i 0 ^^^ l2.getD j 0 ≠ 0)
    (kf : w.cell? ⟨bf, 0, none⟩ = some (.pointer (some ⟨F, 0, none⟩))) (k1 : w.cell? ⟨b1, 0, none⟩ = some (.slice A1 n1 c1)) (k2 : w.cell? ⟨b2, 0, none⟩ = some (.slice A2 n2 c2)) :
    Calls Try.prog 49 #[.int .i64 (i : Int), .int .i64 (j : Int), .pointer (some ⟨bf, 0, none⟩), .pointer (some ⟨b1, 0, none⟩), .pointer (some ⟨b2, 0, none⟩)] w
      fun e w' => e = .returned (.int .u8 ((ginv (l1.getD i 0 ^^^ l2.getD j 0)).toNat : Int)) ∧ ∃ k, w' = w.drewN k := by
  have hl1 := s1.len
  have hl2 := s2.len
  rw [cells_length, Nat.mul_one] at hl1 hl2
  have e1 : l1.getD i 0 = l1[i]'(by omega) := by simp [show i < l1.length from by omega]
  have e2 : l2.getD j 0 = l2[j]'(by omega) := by simp [show j < l2.length from by omega]
  obtain ⟨g1, o1, rfl, hc1⟩ := s1.at_ hi
  obtain ⟨g2, o2, rfl, hc2⟩ := s2.at_ hj
  have x1 := hc1 i _ (cells_get l1 i (by omega))
  have x2 := hc2 j _ (cells_get l2 j (by omega))
  rw [← e1, bv] at x1
  rw [← e2, bv] at x2
  obtain ⟨u, hu⟩ : ∃ u, u = l1.getD i 0 := ⟨_, rfl⟩
  obtain ⟨v, hv⟩ : ∃ v, v = l2.getD j 0 := ⟨_, rfl⟩
  rw [← hu] at x1 hne ⊢
  rw [← hv] at x2 hne ⊢
  have hx := xor_b u v
  obtain ⟨z, hz⟩ : ∃ z, z = u ^^^ v := ⟨_, rfl⟩
  rw [← hz] at hx hne ⊢
  have Hne := Lib.hid hne; clear hne
  have Hf := Lib.hid hf; clear hf
  have hm1 := s1.lim
  have hm2 := s2.lim
  unfold maxLen at hm1 hm2
  clear hz hu hv e1 e2 hc1 hc2 s1 s2 hl1 hl2
  go_enter Try.func49, Try.ntmps49
  go_wp2_with fail
  go_quiet (first | (go_at_call 50; exact Calls.quiet_of (inv1_any F T z Hne.out _ (Hf.out.drewN _))))
  go_wp2_with fail
  go_ret
  exact ⟨rfl, _, rfl⟩

/-- The Cauchy matrix of two lists. -/
def cauM (l1 l2 : List UInt8) : Mx := fun i j => ginv (l1.getD i 0 ^^^ l2.getD j 0)
theorem once_ne {l1 l2 : List UInt8} (h : twiceB (l1 ++ l2) = false) {i j : Nat} (hi : i < l1.length) (hj : j < l2.length) : l1.getD i 0 ^^^ l2.getD j 0 ≠ 0 := by
  have hn : (l1 ++ l2).Nodup := Decidable.byContradiction fun hh => by
    have := of_decide_eq_false h
    exact this hh
  rw [List.nodup_append] at hn
  intro e
  refine hn.2.2 (l1[i]) (List.getElem_mem hi) (l2[j]) (List.getElem_mem hj) ?_
  have := ux_eq e
  simpa [hi, hj] using this

set_option maxRecDepth 20000 in
set_option maxHeartbeats 1600000 in
theorem cauchy_yes (F T : Nat) (A1 : Option Addr) (n1 c1 : Nat) (l1 : List UInt8) (A2 : Option Addr) (n2 c2 : Nat) (l2 : List UInt8) (w : World) (h : Fld w F T) (s1 : MxAt w T A1 n1 c1 l1) (s2 : MxAt w T A2 n2 c2 l2)
    (g1 : 1 ≤ n1 ∧ n1 ≤ 255) (g2 : 1 ≤ n2 ∧ n2 ≤ 255) (h3 : twiceB (l1 ++ l2) = false) :
    Calls Try.prog 28 #[.pointer (some ⟨F, 0, none⟩), .slice A1 n1 c1, .slice A2 n2 c2] w fun e w' => RetOk n1 n2 (tabL n1 n2 (cauM l1 l2)) w e w' ∧ Fld1 w' F T ∧ Fr (Ft T) w w' := by
  have hT := h.ltT
  have hF := h.ltF
  have hl1 := s1.sl.len
  have hl2 := s2.sl.len
  rw [cells_length, Nat.mul_one] at hl1 hl2
  have hhM := mmade_any F T (cauW w (.pointer (some ⟨F, 0, none⟩)) (.slice A1 n1 c1) (.slice A2 n2 c2)) (h.later (cauW_below w _ _ _))
  have S1 := Lib.hid s1; clear s1
  have S2 := Lib.hid s2; clear s2
  have H3 := Lib.hid h3; clear h3
  have Hl1 := Lib.hid hl1; clear hl1
  have Hl2 := Lib.hid hl2; clear hl2
  go_enter Try.func28, Try.ntmps28
  go_wp2_with fail
  refine hhM.mono ?_; clear hhM; rintro e w1 ⟨rfl, hf1, r1⟩
  have I1 := Lib.hid (CauAt.start hT hf1 r1)
  have M1 := Lib.hid ((S1.out.later (cauW_below w (.pointer (some ⟨F, 0, none⟩)) (.slice A1 n1 c1) (.slice A2 n2 c2))).fr r1)
  have M2 := Lib.hid ((S2.out.later (cauW_below w (.pointer (some ⟨F, 0, none⟩)) (.slice A1 n1 c1) (.slice A2 n2 c2))).fr r1)
  clear hf1 r1
  have a1 := cell_of_one I1.out.b1; have a2 := cell_of_one I1.out.b2
  go_wp2_with fail
  refine (fits_yes (n1 : Int) (by omega) (by omega) _).mono ?_; rintro e w2 ⟨rfl, rfl⟩
  go_wp2_with fail
  refine (fits_yes (n2 : Int) (by omega) (by omega) _).mono ?_; rintro e w2 ⟨rfl, rfl⟩
  go_wp2_with fail
  refine (twice_any A1 n1 c1 l1 A2 n2 c2 l2 (by omega) (by omega) (by omega) (by omega) _ M1.out.sl M2.out.sl).mono ?_; rintro e w2 ⟨rfl, hb2⟩
  rw [H3.out]
  have I3 := Lib.hid (I1.out.later hb2)
  have M3 := Lib.hid (M1.out.later hb2)
  have M4 := Lib.hid (M2.out.later hb2)
  clear hb2 a1 a2 M1 M2 I1
  have a0 := cell_of_one I3.out.b0; have a1 := cell_of_one I3.out.b1; have a2 := cell_of_one I3.out.b2
  have hht : Tells 49 #[.pointer (some ⟨w.heap.size, 0, none⟩), .pointer (some ⟨w.heap.size + 1, 0, none⟩), .pointer (some ⟨w.heap.size + 2, 0, none⟩)] n1 n2 (cauM l1 l2) w2 := fun W i j hi hj hb => by
    have hh := cauc_any F T w.heap.size (w.heap.size + 1) (w.heap.size + 2) A1 n1 c1 l1 A2 n2 c2 l2 i j hi hj g1.2 g2.2 W (I3.out.fld.later hb) (M3.out.later hb).sl (M4.out.later hb).sl (once_ne H3.out (by rw [Hl1.out]; exact hi) (by rw [Hl2.out]; exact hj))
      ((hb.cell (World.block_lt_of_cell? w2 _ a0)).trans a0) ((hb.cell (World.block_lt_of_cell? w2 _ a1)).trans a1) ((hb.cell (World.block_lt_of_cell? w2 _ a2)).trans a2)
    exact hh.mono fun e w' ⟨he, k, hk⟩ => ⟨he, hk ▸ below_drewN (Below.refl _ _) k⟩
  have hhB := build_any n1 n2 g1.2 g2.2 _ enters_cau1 _ _ _ hht
  clear hht h
  go_wp2_with fail
  refine hhB.mono ?_; clear hhB; rintro e w6 ⟨v, rfl, ⟨A6, c6, rfl, hg6⟩, hb6⟩
  have hs3 := I3.out.size
  have I6 := Lib.hid (I3.out.later hb6)
  have HG6 := Lib.hid hg6; clear hg6 a0 a1 a2
  have x0 := box0_0 I6.out.b3; have x1 := box0_1 I6.out.b3; have x2 := box0_2 I6.out.b3
  have y0 := box0_free I6.out.b3 0; have y1 := box0_free I6.out.b3 1; have y2 := box0_free I6.out.b3 2
  go_wp2_with fail
  refine bodyPost_ret (results_cell_pair Try.results28 _ _ (w.heap.size + 3) 24 _ (0, 0) _ rfl (box0_set I6.out.b3) Try.underlying24 rfl size_matrix) rfl ?_
  have hq := box0_fr w6 (w.heap.size + 3) (n1 : Int) (n2 : Int) A6 (n1 * n2) c6
  exact ⟨⟨A6, c6, rfl, (HG6.out.frG hq (by omega)).lower (by omega)⟩, I6.out.no hT hF (n1 : Int) (n2 : Int) A6 (n1 * n2) c6⟩
end Go.Proofs.Ytccnoflgbopjlaa
