/-
  Contract of package matrix's Mul. Condition: the field is one that New made, or nil. (Written by gen_mdl.py.)
-/
import Derived.Test.YtccnoflgbopjlaaMdk
import Derived.Test.YtccnoflgbopjlaaMdj
import Derived.Test.YtccnoflgbopjlaaReg
import Derived.Deep.DeepCutAuto
import Derived.Outline
namespace Go.Proofs.Ytccnoflgbopjlaa
open Go.RowKit Go.Proofs
set_option linter.unusedVariables false

theorem RowsAt.wid {w : World} {g n W : Nat} {S : Nat → Prop} {M : Mx} (h : RowsAt w g n W S M) (S' : Nat → Prop) (hS : ∀ b, b < w.heap.size → S' b → S b) : RowsAt w g n W S' M := by
  obtain ⟨cur, hg, hn, hr⟩ := h.row
  refine ⟨cur, hg, hn, fun i hi => ?_⟩
  obtain ⟨A, c, h1, h2, h3⟩ := hr i hi
  exact ⟨A, c, h1, h2, fun b o hW hA hb => h3 b o hW hA (hS b (h2.lt (by decide) hW hA) hb)⟩

/-- The world of Mul behind its boxes. -/
def mulW (w : World) (f : Value) (r c : Int) (A : Option Addr) (n cp : Nat) (r' c' : Int) (A' : Option Addr) (n' cp' : Nat) : World :=
  (((w.alloc (.cells #[f] 39)).alloc (.cells #[.int .i64 r, .int .i64 c, .slice A n cp] 24)).alloc (.cells #[.int .i64 r', .int .i64 c', .slice A' n' cp'] 24)).alloc (.cells #[.int .i64 0, .int .i64 0, .slice none 0 0] 24)
section
variable (w : World) (f : Value) (r c : Int) (A : Option Addr) (n cp : Nat) (r' c' : Int) (A' : Option Addr) (n' cp' : Nat)
theorem mulW_size : (mulW w f r c A n cp r' c' A' n' cp').heap.size = w.heap.size + 4 := by simp [mulW]
theorem mulW_below : Below w.heap.size w (mulW w f r c A n cp r' c' A' n' cp') := ((((Below.refl _ _).alloc (Nat.le_refl _) _).alloc (by simp) _).alloc (by simp; omega) _).alloc (by simp; omega) _
theorem mulW_0 : (mulW w f r c A n cp r' c' A' n' cp').heap[w.heap.size]? = some (.cells #[f] 39 (0, 0)) :=
  (Below.heap_alloc _ _ _ (by first | (simp; done) | (simp; omega))).trans ((Below.heap_alloc _ _ _ (by first | (simp; done) | (simp; omega))).trans (alloc2_old w _ _))
theorem mulW_1 : (mulW w f r c A n cp r' c' A' n' cp').heap[w.heap.size + 1]? = some (boxM r c A n cp) :=
  (Below.heap_alloc _ _ _ (by first | (simp; done) | (simp; omega))).trans ((Below.heap_alloc _ _ _ (by first | (simp; done) | (simp; omega))).trans (alloc2_new w _ _))
theorem mulW_2 : (mulW w f r c A n cp r' c' A' n' cp').heap[w.heap.size + 2]? = some (boxM r' c' A' n' cp') := by
  refine (Below.heap_alloc _ _ _ (by simp)).trans ?_
  have := alloc2_new (w.alloc (.cells #[f] 39)) (.cells #[.int .i64 r, .int .i64 c, .slice A n cp] 24) (boxM r' c' A' n' cp')
  rwa [show (w.alloc (.cells #[f] 39)).heap.size + 1 = w.heap.size + 2 from by simp] at this
theorem mulW_3 : (mulW w f r c A n cp r' c' A' n' cp').heap[w.heap.size + 3]? = some box0 := by
  have := alloc2_new ((w.alloc (.cells #[f] 39)).alloc (.cells #[.int .i64 r, .int .i64 c, .slice A n cp] 24)) (boxM r' c' A' n' cp') box0
  rwa [show ((w.alloc (.cells #[f] 39)).alloc (.cells #[.int .i64 r, .int .i64 c, .slice A n cp] 24)).heap.size + 1 = w.heap.size + 3 from by simp] at this
end

set_option maxRecDepth 20000 in
set_option maxHeartbeats 800000 in
theorem mul_nil (r c : Int) (A : Option Addr) (n cp : Nat) (r' c' : Int) (A' : Option Addr) (n' cp' : Nat) (w : World) :
    Calls Try.prog 20 #[.pointer none, .agg #[.int .i64 r, .int .i64 c, .slice A n cp], .agg #[.int .i64 r', .int .i64 c', .slice A' n' cp']] w fun e w' => e = .returned (NoMx 1) ∧ Below w.heap.size w w' := by
  go_enter Try.func20, Try.ntmps20
  go_wp2_with fail
  refine (mmadenil_any _).mono ?_; rintro e w1 ⟨rfl, rfl⟩
  go_wp2_with fail
  refine bodyPost_ret (results_cell_pair Try.results20 _ _ (w.heap.size + 3) 24 _ (0, 0) _ rfl (mulW_3 w (.pointer none) r c A n cp r' c' A' n' cp') Try.underlying24 rfl size_matrix) rfl ?_
  exact ⟨rfl, mulW_below w (.pointer none) r c A n cp r' c' A' n' cp'⟩

/-- A world of Mul's in which the field is made and the boxes lie. -/
structure MulAt (w0 w : World) (F T : Nat) (r c : Int) (A : Option Addr) (n cp : Nat) (r' c' : Int) (A' : Option Addr) (n' cp' : Nat) : Prop where
  fr : Fr (Ft T) w0 w
  fld : Fld1 w F T
  size : w0.heap.size + 4 ≤ w.heap.size
  b0 : w.heap[w0.heap.size]? = some (.cells #[.pointer (some ⟨F, 0, none⟩)] 39 (0, 0))
  b1 : w.heap[w0.heap.size + 1]? = some (boxM r c A n cp)
  b2 : w.heap[w0.heap.size + 2]? = some (boxM r' c' A' n' cp')
  b3 : w.heap[w0.heap.size + 3]? = some box0
theorem MulAt.later {w0 w w' : World} {F T : Nat} {r c : Int} {A : Option Addr} {n cp : Nat} {r' c' : Int} {A' : Option Addr} {n' cp' : Nat} (h : MulAt w0 w F T r c A n cp r' c' A' n' cp') (hb : Below w.heap.size w w') : MulAt w0 w' F T r c A n cp r' c' A' n' cp' :=
  ⟨h.fr.trans (Fr.of_below hb), h.fld.later hb, Nat.le_trans h.size hb.size, (hb.block _ (block_lt h.b0)).trans h.b0, (hb.block _ (block_lt h.b1)).trans h.b1, (hb.block _ (block_lt h.b2)).trans h.b2, (hb.block _ (block_lt h.b3)).trans h.b3⟩
theorem MulAt.start {w w1 : World} {F T : Nat} {r c : Int} {A : Option Addr} {n cp : Nat} {r' c' : Int} {A' : Option Addr} {n' cp' : Nat} (hT : T < w.heap.size) (hf : Fld1 w1 F T) (hr : Fr (Ft T) (mulW w (.pointer (some ⟨F, 0, none⟩)) r c A n cp r' c' A' n' cp') w1) :
    MulAt w w1 F T r c A n cp r' c' A' n' cp' :=
  ⟨(Fr.of_below (mulW_below w _ r c A n cp r' c' A' n' cp')).trans hr, hf, by have := hr.size; rw [mulW_size] at this; exact this,
    hr.row_some (mulW_0 w _ r c A n cp r' c' A' n' cp') (by show ¬ _ = T; omega), hr.row_some (mulW_1 w _ r c A n cp r' c' A' n' cp') (by show ¬ _ = T; omega),
    hr.row_some (mulW_2 w _ r c A n cp r' c' A' n' cp') (by show ¬ _ = T; omega), hr.row_some (mulW_3 w _ r c A n cp r' c' A' n' cp') (by show ¬ _ = T; omega)⟩

set_option maxRecDepth 20000 in
set_option maxHeartbeats 1600000 in
theorem mul_no (F T : Nat) (r c : Int) (A : Option Addr) (n cp : Nat) (r' c' : Int) (A' : Option Addr) (n' cp' : Nat) (hn : n ≤ maxLen) (hn' : n' ≤ maxLen) (w : World) (h : Fld w F T) (hno : ¬ (rightB r c n = true ∧ rightB r' c' n' = true ∧ c = r')) :
    Calls Try.prog 20 #[.pointer (some ⟨F, 0, none⟩), .agg #[.int .i64 r, .int .i64 c, .slice A n cp], .agg #[.int .i64 r', .int .i64 c', .slice A' n' cp']] w (OnFld F T w (NoMx 2)) := by
  have hT := h.ltT
  have hF := h.ltF
  have hhM := mmade_any F T (mulW w (.pointer (some ⟨F, 0, none⟩)) r c A n cp r' c' A' n' cp') (h.later (mulW_below w _ r c A n cp r' c' A' n' cp'))
  have Hno := Lib.hid hno; clear hno
  by_cases h1 : rightB r c n = true
  · by_cases h2 : rightB r' c' n' = true
    · have h3 : ¬ c = r' := fun e => Hno.out ⟨h1, h2, e⟩
      have hd : (c != r') = true := by simpa using h3
      have H1 := Lib.hid h1; clear h1
      have H2 := Lib.hid h2; clear h2
      go_enter Try.func20, Try.ntmps20
      go_wp2_with fail
      refine hhM.mono ?_; clear hhM; rintro e w1 ⟨rfl, hf1, r1⟩
      have I1 := Lib.hid (MulAt.start hT hf1 r1); clear hf1 r1
      have a0 := boxM_0 I1.out.b1; have a1 := boxM_1 I1.out.b1; have a2 := boxM_2 I1.out.b1
      go_wp2_with fail
      refine (right_any r c A n cp hn _).mono ?_; rintro e w2 ⟨rfl, hb2⟩
      rw [H1.out]
      have I2 := Lib.hid (I1.out.later hb2); clear hb2 a0 a1 a2
      have b0 := boxM_0 I2.out.b2; have b1 := boxM_1 I2.out.b2; have b2 := boxM_2 I2.out.b2
      go_wp2_with fail
      refine (right_any r' c' A' n' cp' hn' _).mono ?_; rintro e w3 ⟨rfl, hb3⟩
      rw [H2.out]
      have I3 := Lib.hid (I2.out.later hb3); clear hb3 b0 b1 b2
      have a1 := boxM_1 I3.out.b1
      have b0 := boxM_0 I3.out.b2
      have x0 := box0_0 I3.out.b3; have x1 := box0_1 I3.out.b3; have x2 := box0_2 I3.out.b3
      have y0 := box0_free I3.out.b3 0; have y1 := box0_free I3.out.b3 1; have y2 := box0_free I3.out.b3 2
      clear h
      go_wp2_with fail
      refine bodyPost_ret (results_cell_pair Try.results20 _ _ (w.heap.size + 3) 24 _ (0, 0) _ rfl (box0_set I3.out.b3) Try.underlying24 rfl size_matrix) rfl ?_
      have hq := box0_fr w3 (w.heap.size + 3) 0 0 none 0 0
      exact ⟨rfl, I3.out.fld.fr hq (by show ¬ F = _; omega) (by show ¬ T = _; omega), I3.out.fr.andNew hq (fun i hi hk => by have hk : i = _ := hk; omega)⟩
    · have h2f : rightB r' c' n' = false := by simpa using h2
      have H1 := Lib.hid h1; clear h1
      have H2 := Lib.hid h2f; clear h2 h2f
      go_enter Try.func20, Try.ntmps20
      go_wp2_with fail
      refine hhM.mono ?_; clear hhM; rintro e w1 ⟨rfl, hf1, r1⟩
      have I1 := Lib.hid (MulAt.start hT hf1 r1); clear hf1 r1
      have a0 := boxM_0 I1.out.b1; have a1 := boxM_1 I1.out.b1; have a2 := boxM_2 I1.out.b1
      go_wp2_with fail
      refine (right_any r c A n cp hn _).mono ?_; rintro e w2 ⟨rfl, hb2⟩
      rw [H1.out]
      have I2 := Lib.hid (I1.out.later hb2); clear hb2 a0 a1 a2
      have b0 := boxM_0 I2.out.b2; have b1 := boxM_1 I2.out.b2; have b2 := boxM_2 I2.out.b2
      go_wp2_with fail
      refine (right_any r' c' A' n' cp' hn' _).mono ?_; rintro e w3 ⟨rfl, hb3⟩
      rw [H2.out]
      have I3 := Lib.hid (I2.out.later hb3); clear hb3 b0 b1 b2
      have x0 := box0_0 I3.out.b3; have x1 := box0_1 I3.out.b3; have x2 := box0_2 I3.out.b3
      have y0 := box0_free I3.out.b3 0; have y1 := box0_free I3.out.b3 1; have y2 := box0_free I3.out.b3 2
      clear h
      go_wp2_with fail
      refine bodyPost_ret (results_cell_pair Try.results20 _ _ (w.heap.size + 3) 24 _ (0, 0) _ rfl (box0_set I3.out.b3) Try.underlying24 rfl size_matrix) rfl ?_
      have hq := box0_fr w3 (w.heap.size + 3) 0 0 none 0 0
      exact ⟨rfl, I3.out.fld.fr hq (by show ¬ F = _; omega) (by show ¬ T = _; omega), I3.out.fr.andNew hq (fun i hi hk => by have hk : i = _ := hk; omega)⟩
  · have h1f : rightB r c n = false := by simpa using h1
    have H1 := Lib.hid h1f; clear h1 h1f
    go_enter Try.func20, Try.ntmps20
    go_wp2_with fail
    refine hhM.mono ?_; clear hhM; rintro e w1 ⟨rfl, hf1, r1⟩
    have I1 := Lib.hid (MulAt.start hT hf1 r1); clear hf1 r1
    have a0 := boxM_0 I1.out.b1; have a1 := boxM_1 I1.out.b1; have a2 := boxM_2 I1.out.b1
    go_wp2_with fail
    refine (right_any r c A n cp hn _).mono ?_; rintro e w2 ⟨rfl, hb2⟩
    rw [H1.out]
    have I3 := Lib.hid (I1.out.later hb2); clear hb2 a0 a1 a2
    have x0 := box0_0 I3.out.b3; have x1 := box0_1 I3.out.b3; have x2 := box0_2 I3.out.b3
    have y0 := box0_free I3.out.b3 0; have y1 := box0_free I3.out.b3 1; have y2 := box0_free I3.out.b3 2
    clear h
    go_wp2_with fail
    refine bodyPost_ret (results_cell_pair Try.results20 _ _ (w.heap.size + 3) 24 _ (0, 0) _ rfl (box0_set I3.out.b3) Try.underlying24 rfl size_matrix) rfl ?_
    have hq := box0_fr w2 (w.heap.size + 3) 0 0 none 0 0
    exact ⟨rfl, I3.out.fld.fr hq (by show ¬ F = _; omega) (by show ¬ T = _; omega), I3.out.fr.andNew hq (fun i hi hk => by have hk : i = _ := hk; omega)⟩

theorem dot_rows (D : Nat) (f g : Nat → UInt8) : dotS (rowL D f) (rowL D g) = xs D (fun j => gm (f j) (g j)) := by
  rw [dotS, rowL_length, rowL_length, Nat.min_self]
  exact xs_congr D fun j hj => by rw [rowL_getD D f j hj, rowL_getD D g j hj]

theorem enters_mul1 : ∀ args w, (callFunc 40 args).run Try.prog w = .ok (.enter 40 args) w := enters_of Try.func40 (by kernel_rfl) rfl
set_option maxRecDepth 20000 in
set_option maxHeartbeats 1600000 in
theorem mulc_any (F T bf bl br gl gr R D C : Nat) (S S' : Nat → Prop) (X Y : Mx) (hR : R ≤ 255) (hC : C ≤ 255) (i j : Nat) (hi : i < R) (hj : j < C) (w : World) (hf : Fld1 w F T) (hl : RowsAt w gl R D S X) (hr : RowsAt w gr C D S' Y)
    (kf : w.cell? ⟨bf, 0, none⟩ = some (.pointer (some ⟨F, 0, none⟩))) (kl : w.cell? ⟨bl, 0, none⟩ = some (.slice (some ⟨gl, 0, none⟩) R R)) (kr : w.cell? ⟨br, 0, none⟩ = some (.slice (some ⟨gr, 0, none⟩) C C)) :
    Calls Try.prog 40 #[.int .i64 (i : Int), .int .i64 (j : Int), .pointer (some ⟨bf, 0, none⟩), .pointer (some ⟨bl, 0, none⟩), .pointer (some ⟨br, 0, none⟩)] w
      fun e w' => e = .returned (.int .u8 ((xs D fun k => gm (X i k) (Y j k)).toNat : Int)) ∧ ∃ k, w' = w.drewN k := by
  obtain ⟨A1, c1, k1, s1, _⟩ := hl.cell hi
  obtain ⟨A2, c2, k2, s2, _⟩ := hr.cell hj
  have Hf := Lib.hid hf; clear hf
  have S1 := Lib.hid s1; clear s1
  have S2 := Lib.hid s2; clear s2
  clear hl hr
  go_enter Try.func40, Try.ntmps40
  go_wp2_with fail
  go_quiet (first | (go_at_call 41; exact Calls.quiet_of (dot1_any F T A1 D c1 (rowL D (X i)) A2 D c2 (rowL D (Y j)) _ (Hf.out.drewN _) (S1.out.drewN _) (S2.out.drewN _))))
  rw [dot_rows]
  go_wp2_with fail
  go_ret
  exact ⟨rfl, _, rfl⟩
end Go.Proofs.Ytccnoflgbopjlaa
