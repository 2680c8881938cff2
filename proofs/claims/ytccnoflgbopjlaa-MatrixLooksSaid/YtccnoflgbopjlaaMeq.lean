/-
  MatrixLooks returns true, whatever its arguments. No condition. (Written by gen_meq.py.)
-/
import Derived.Test.YtccnoflgbopjlaaMep
namespace Go.Proofs.Ytccnoflgbopjlaa
open Go.RowKit Go.Proofs
set_option linter.unusedVariables false

/-- A variable's box and its matrix. -/
structure VB (w : World) (v : Vr) : Prop where
  box : w.heap[v.g]? = some (boxM v.m.r v.m.c v.A v.m.l.length v.cp)
  sl : Sl w 1 v.A v.m.l.length v.cp (cells v.m.l)
theorem VB.later {w w' : World} {v : Vr} (h : VB w v) (hb : Below w.heap.size w w') : VB w' v := ⟨(hb.block _ (block_lt h.box)).trans h.box, h.sl.below hb (Nat.le_refl _)⟩
/-- Since w0 nothing has turned; the variables hold matrices. -/
structure Vs (w0 : World) (vs : List Vr) (w : World) : Prop where
  below : Below w0.heap.size w0 w
  vars : ∀ v ∈ vs, VB w v
section
variable {w0 w w' : World} {vs : List Vr}
theorem Vs.inn (h : Vs w0 vs w) : Vs w0 vs w := h
theorem Vs.later (h : Vs w0 vs w) (hb : Below w.heap.size w w') : Vs w0 vs w' := ⟨h.below.trans (hb.mono h.below.size), fun v hv => (h.vars v hv).later hb⟩
theorem Vs.add (h : Vs w0 vs w) (m : M3) (A : Option Addr) (cp : Nat) (hs : Sl w 1 A m.l.length cp (cells m.l)) : Vs w0 (⟨w.heap.size, m, A, cp⟩ :: vs) (w.alloc (m.box A cp)) := by
  have hb : Below w.heap.size w (w.alloc (m.box A cp)) := (Below.refl _ _).alloc (Nat.le_refl _) _
  refine ⟨(h.later hb).below, fun v hv => ?_⟩
  rcases List.mem_cons.1 hv with rfl | hv
  · exact ⟨heap_alloc_new w _, hs.below hb (Nat.le_refl _)⟩
  · exact (h.later hb).vars v hv
theorem Vs.c0 (h : Vs w0 vs w) {v : Vr} (hv : v ∈ vs) : w.cell? ⟨v.g, 0, none⟩ = some (.int .i64 v.m.r) := boxM_0 (h.vars v hv).box
theorem Vs.c1 (h : Vs w0 vs w) {v : Vr} (hv : v ∈ vs) : w.cell? ⟨v.g, 1, none⟩ = some (.int .i64 v.m.c) := boxM_1 (h.vars v hv).box
theorem Vs.c2 (h : Vs w0 vs w) {v : Vr} (hv : v ∈ vs) : w.cell? ⟨v.g, 2, none⟩ = some (.slice v.A v.m.l.length v.cp) := boxM_2 (h.vars v hv).box
end
/-- What a call answers that makes a matrix and an error's number. -/
def RetV (R : M3 → Int → Prop) (w : World) (e : Ending) (w' : World) : Prop := (∃ (m : M3) (A : Option Addr) (cp : Nat) (x : Int), e = .returned (.tuple #[m.v A cp, .int .i64 x]) ∧ Sl w' 1 A m.l.length cp (cells m.l) ∧ R m x) ∧ Below w.heap.size w w'
theorem RetN.v {R : M3 → Int → Prop} {w w' : World} {e : Ending} (h : RetN R w e w') : RetV R w e w' := by
  obtain ⟨⟨m, A, cp, x, h1, h2, h3⟩, hb⟩ := h
  exact ⟨⟨m, A, cp, x, h1, h2.own.sl, h3⟩, hb⟩
theorem RetV.no {R : M3 → Int → Prop} {x : Int} {w w' : World} {e : Ending} (he : e = .returned (NoMx x)) (hR : R M3.none x) (hb : Below w.heap.size w w') : RetV R w e w' := ⟨⟨M3.none, none, 0, x, he, Sl.nil _ 1 0 (by decide), hR⟩, hb⟩
theorem RetV.yes {R : M3 → Int → Prop} {e : Ending} {w w' : World} {n c : Nat} {f : Mx} {A : Option Addr} {cp : Nat} {x : Int} (he : e = .returned (.tuple #[.agg #[.int .i64 (n : Int), .int .i64 (c : Int), .slice A (n * c) cp], .int .i64 x]))
    (hs : Sl w' 1 A (n * c) cp (cells (tabL n c f))) (hb : Below w.heap.size w w') (hR : R (M3.of n c f) x) : RetV R w e w' := by
  subst he
  refine ⟨⟨M3.of n c f, A, cp, x, ?_, ?_, hR⟩, hb⟩
  · show _ = Ending.returned (.tuple #[.agg #[.int .i64 (n : Int), .int .i64 (c : Int), .slice A (tabL n c f).length cp], .int .i64 x])
    rw [tabL_length]
  · show Sl w' 1 A (tabL n c f).length cp (cells (tabL n c f))
    rw [tabL_length]; exact hs

theorem PickR.one {m : M3} {rows : List Int} {o o' : M3} {x x' : Int} (h : PickR m rows o x) (h' : PickR m rows o' x') : o = o' ∧ x = x' := by
  rcases h with ⟨R, C, h1, h2, h3, rfl⟩ | ⟨rfl, rfl, h1⟩
  · rcases h' with ⟨R', C', h1', h2', h3', rfl⟩ | ⟨rfl, rfl, h1'⟩
    · obtain ⟨e1, e2⟩ := h1.unique h1'
      subst e1; subst e2
      exact ⟨h3.same h3' fun _ _ _ _ => rfl, rfl⟩
    · exact absurd ⟨h1.ok, fitsB_t ⟨by have := h3.r1; omega, by have := h3.r2; omega⟩, h2⟩ h1'
  · rcases h' with ⟨R', C', h1', h2', h3', rfl⟩ | ⟨rfl, rfl, h1'⟩
    · exact absurd ⟨h1'.ok, fitsB_t ⟨by have := h3'.r1; omega, by have := h3'.r2; omega⟩, h2'⟩ h1
    · exact ⟨rfl, rfl⟩
theorem pick_all (m : M3) (P : Option Addr) (p : Nat) (A : Option Addr) (cp : Nat) (rows : List Int) (w : World) (s1 : Sl w 1 P m.l.length p (cells m.l)) (s2 : Sl w 1 A rows.length cp (icells rows)) :
    Calls Try.prog 11 #[.agg #[.int .i64 m.r, .int .i64 m.c, .slice P m.l.length p], .slice A rows.length cp] w (RetV (PickR m rows) w) := by
  by_cases hok : m.ok = true ∧ fitsB rows.length = true ∧ allIn rows m.r = true
  · obtain ⟨h0, h2, h3⟩ := hok
    obtain ⟨R, C, hM⟩ := M3.is_of_ok h0
    have g2 := of_decide_eq_true h2
    have h3' := h3
    have h1 := hM.ok
    rw [M3.ok, hM.r, hM.c] at h1
    rw [hM.r] at h3'
    rw [hM.r, hM.c]
    refine (pick_yes R C P _ p m.l A _ cp rows w s1 s2 h1 hM.c2 (by omega) h3').mono ?_
    rintro e w' ⟨⟨A', c', he, hg⟩, hb⟩
    refine RetV.yes he hg.own.sl hb (.inl ⟨R, C, hM, h3, (M3.is_of (by omega) (by omega) hM.c1 hM.c2).congr fun i hi j hj => ?_, rfl⟩)
    have hz := allIn_get h3' hi
    obtain ⟨I, hI⟩ := Int.eq_ofNat_of_zero_le hz.1
    have hIR : I < R := by omega
    have := atR_in hM hIR hj
    rw [hM.r, hM.c] at this
    show atR (R : Int) (C : Int) m.l.length m.l (rows.getD i 0) (j : Int) = mx C m.l (rows.getD i 0).toNat j
    rw [hI, this]
    rfl
  · refine (pick_no m.r m.c P _ p A _ cp rows w s1.lim s2 (fun h => hok h)).mono ?_
    rintro e w' ⟨he, hb⟩
    exact RetV.no he (.inr ⟨rfl, rfl, hok⟩) hb
theorem rpick_all (m : M3) (P : Option Addr) (p : Nat) (A : Option Addr) (cp : Nat) (rows : List Int) (w : World) (s1 : Sl w 1 P m.l.length p (cells m.l)) (s2 : Sl w 1 A rows.length cp (icells rows)) :
    Calls Try.prog 12 #[.agg #[.int .i64 m.r, .int .i64 m.c, .slice P m.l.length p], .slice A rows.length cp] w (RetV (PickR m rows) w) := by
  by_cases hok : m.ok = true ∧ fitsB rows.length = true
  · obtain ⟨R, C, hM⟩ := M3.is_of_ok hok.1
    have g2 := of_decide_eq_true hok.2
    exact (rpick_go m P p A cp rows w s1 s2 R C hM (by omega)).mono fun e w' h => h.v
  · exact (rpick_no m P p A cp rows w s1 s2 hok).mono fun e w' h => h.v
/-- What Identity makes of z. -/
def IdR (z : Int) (o : M3) (x : Int) : Prop := (∃ n : Nat, z = (n : Int) ∧ o.Is n n one ∧ x = 0) ∨ (¬ (1 ≤ z ∧ z ≤ 255) ∧ o = M3.none ∧ x = 2)
theorem IdR.one {z : Int} {o o' : M3} {x x' : Int} (h : IdR z o x) (h' : IdR z o' x') : o = o' ∧ x = x' := by
  rcases h with ⟨n, h1, h2, rfl⟩ | ⟨h1, rfl, rfl⟩
  · rcases h' with ⟨n', h1', h2', rfl⟩ | ⟨h1', rfl, rfl⟩
    · obtain rfl : n = n' := by omega
      exact ⟨h2.same h2' fun _ _ _ _ => rfl, rfl⟩
    · exact absurd ⟨by have := h2.r1; omega, by have := h2.r2; omega⟩ h1'
  · rcases h' with ⟨n', h1', h2', rfl⟩ | ⟨h1', rfl, rfl⟩
    · exact absurd ⟨by have := h2'.r1; omega, by have := h2'.r2; omega⟩ h1
    · exact ⟨rfl, rfl⟩
theorem idn_all (z : Int) (w : World) : Calls Try.prog 18 #[.int .i64 z] w (RetV (IdR z) w) := by
  by_cases h : 1 ≤ z ∧ z ≤ 255
  · obtain ⟨n, rfl⟩ := Int.eq_ofNat_of_zero_le (show 0 ≤ z by omega)
    refine (identity_yes n (by omega) (by omega) w).mono ?_
    rintro e w' ⟨⟨A, c, he, hg⟩, hb⟩
    exact RetV.yes he hg.own.sl hb (.inl ⟨n, rfl, M3.is_of (by omega) (by omega) (by omega) (by omega), rfl⟩)
  · exact (identity_no z (by omega) w).mono fun e w' ⟨he, hb⟩ => RetV.no (x := 2) he (.inr ⟨h, rfl, rfl⟩) hb
theorem ridn_all (z : Int) (w : World) : Calls Try.prog 19 #[.int .i64 z] w (RetV (IdR z) w) := by
  by_cases h : 1 ≤ z ∧ z ≤ 255
  · obtain ⟨n, rfl⟩ := Int.eq_ofNat_of_zero_le (show 0 ≤ z by omega)
    refine (ridentity_yes n (by omega) (by omega) w).mono ?_
    rintro e w' ⟨A, c, he, hs, hb⟩
    exact RetV.yes he hs hb (.inl ⟨n, rfl, M3.is_of (by omega) (by omega) (by omega) (by omega), rfl⟩)
  · exact (ridentity_no z (by omega) w).mono fun e w' ⟨he, hb⟩ => RetV.no (x := 2) he (.inr ⟨h, rfl, rfl⟩) hb

set_option maxRecDepth 20000 in
set_option maxHeartbeats 6400000 in
theorem matrixLooks_walk (m : M3) (rows : List Int) (y : Int) (P A3 : Option Addr) (p p3 : Nat) (w : World) (s1 : Sl w 1 P m.l.length p (cells m.l)) (s2 : Sl w 1 A3 rows.length p3 (icells rows)) :
    Calls Try.prog 3 #[m.v P p, .slice A3 rows.length p3, .int .i64 y] w (SaysTrue w) := by
  rw [M3.v]
  have hlim := s1.lim
  have hn := s2.lim
  unfold maxLen at hn
  have K1 := Lib.hid s1; clear s1
  have s2h := Lib.hid s2; clear s2
  have hb0 : Below w.heap.size w (w.alloc (m.box P p)) := (Below.refl _ _).alloc (Nat.le_refl _) _
  have hx0 := heap_alloc_new w (m.box P p)
  have hh0 := few_any m.r m.c P m.l.length p (w.alloc (m.box P p))
  by_cases ha : m.l.length ≤ 150
  · rw [decide_eq_true ha] at hh0
    by_cases hr : rows.length > 300
    · have dr : decide ((rows.length : Int) > 300) = true := by simp; omega
      go_enter Try.func3, Try.ntmps3
      go_wp2_with fail
      refine hh0.mono ?_; clear hh0; rintro e w1 ⟨rfl, hb1⟩
      go_wp2_with fail
      refine (stands_any _).mono ?_; rintro e w3 ⟨rfl, hb3⟩
      go_wp2_with fail
      go_ret
      exact ⟨rfl, (hb0.trans (hb1.mono hb0.size)).trans (hb3.mono (Nat.le_trans hb0.size hb1.size))⟩
    · have dr : decide ((rows.length : Int) > 300) = false := by simp; omega
      go_enter Try.func3, Try.ntmps3
      go_wp2_with fail
      refine hh0.mono ?_; clear hh0; rintro e w1 ⟨rfl, hb1⟩
      have hx1 := (hb1.block _ (block_lt hx0)).trans hx0
      have hbw := hb0.trans (hb1.mono hb0.size)
      have S0 := Lib.hid (show Vs w [⟨w.heap.size, m, P, p⟩] w1 from ⟨hbw, fun v hv => by
        rcases List.mem_cons.1 hv with rfl | hv
        · exact ⟨hx1, K1.out.below hbw (Nat.le_refl _)⟩
        · cases hv⟩)
      clear hx0 hx1 hb0 hb1 hbw
      have q11_0 : (w1).cell? ⟨w.heap.size, 0, none⟩ = some (.int .i64 m.r) := S0.out.c0 (v := ⟨w.heap.size, m, P, p⟩) (List.mem_iff_getElem?.2 ⟨0, rfl⟩)
      have q11_1 : (w1).cell? ⟨w.heap.size, 1, none⟩ = some (.int .i64 m.c) := S0.out.c1 (v := ⟨w.heap.size, m, P, p⟩) (List.mem_iff_getElem?.2 ⟨0, rfl⟩)
      have q11_2 : (w1).cell? ⟨w.heap.size, 2, none⟩ = some (.slice P m.l.length p) := S0.out.c2 (v := ⟨w.heap.size, m, P, p⟩) (List.mem_iff_getElem?.2 ⟨0, rfl⟩)
      go_wp2_with fail
      have hh := pick_all m P p A3 p3 rows (w1) (S0.out.vars ⟨w.heap.size, m, P, p⟩ (List.mem_iff_getElem?.2 ⟨0, rfl⟩)).sl (s2h.out.below S0.out.below (Nat.le_refl _))
      refine hh.mono ?_; clear hh; rintro e w12 ⟨⟨m12, A12, cp12, x12, rfl, hg, hR⟩, hb⟩
      have R1 := Lib.hid hR; clear hR
      have S12 := Lib.hid ((S0.out.later hb).add m12 A12 cp12 hg)
      clear q11_0 q11_1 q11_2
      clear hg hb S0
      rw [M3.v]
      have q13_0 : (w12.alloc (.cells #[.int .i64 m12.r, .int .i64 m12.c, .slice A12 m12.l.length cp12] 24)).cell? ⟨w.heap.size, 0, none⟩ = some (.int .i64 m.r) := S12.out.c0 (v := ⟨w.heap.size, m, P, p⟩) (List.mem_iff_getElem?.2 ⟨1, rfl⟩)
      have q13_1 : (w12.alloc (.cells #[.int .i64 m12.r, .int .i64 m12.c, .slice A12 m12.l.length cp12] 24)).cell? ⟨w.heap.size, 1, none⟩ = some (.int .i64 m.c) := S12.out.c1 (v := ⟨w.heap.size, m, P, p⟩) (List.mem_iff_getElem?.2 ⟨1, rfl⟩)
      have q13_2 : (w12.alloc (.cells #[.int .i64 m12.r, .int .i64 m12.c, .slice A12 m12.l.length cp12] 24)).cell? ⟨w.heap.size, 2, none⟩ = some (.slice P m.l.length p) := S12.out.c2 (v := ⟨w.heap.size, m, P, p⟩) (List.mem_iff_getElem?.2 ⟨1, rfl⟩)
      go_wp2_with fail
      have hh := (rpick_all m P p A3 p3 rows (w12.alloc (.cells #[.int .i64 m12.r, .int .i64 m12.c, .slice A12 m12.l.length cp12] 24)) (S12.out.vars ⟨w.heap.size, m, P, p⟩ (List.mem_iff_getElem?.2 ⟨1, rfl⟩)).sl (s2h.out.below S12.out.below (Nat.le_refl _)))
      refine hh.mono ?_; clear hh; rintro e w14 ⟨⟨m14, A14, cp14, x14, rfl, hg, hR⟩, hb⟩
      have R2 := Lib.hid hR; clear hR
      have S14 := Lib.hid ((S12.out.later hb).add m14 A14 cp14 hg)
      clear q13_0 q13_1 q13_2
      clear hg hb S12
      rw [M3.v]
      obtain ⟨hab, hef⟩ := R1.out.one R2.out
      have Hab := Lib.hid hab; clear hab
      subst hef
      clear R1 R2
      go_upto_region 5 with (fail)
      have S15 := Lib.hid (show Vs w [⟨w14.heap.size, m14, A14, cp14⟩, ⟨w12.heap.size, m12, A12, cp12⟩, ⟨w.heap.size, m, P, p⟩] (w14.alloc (.cells #[.int .i64 m14.r, .int .i64 m14.c, .slice A14 m14.l.length cp14] 24)) from S14.out); clear S14
      obtain ⟨w15, hw⟩ : ∃ w15, w15 = w14.alloc (.cells #[.int .i64 m14.r, .int .i64 m14.c, .slice A14 m14.l.length cp14] 24) := ⟨_, rfl⟩
      rw [← hw] at S15 ⊢
      clear hw
      go_cut [52] (fun vv wx => vv = .bool false ∧ Vs w [⟨w14.heap.size, m14, A14, cp14⟩, ⟨w12.heap.size, m12, A12, cp12⟩, ⟨w.heap.size, m, P, p⟩] wx)
      case first =>
        have st0 := Lib.hid (S15.out.later (Below.drew (Below.refl _ _)))
        refine wp_region_held_drew (S := fun w' => Fr (fun _ => False) w15 w') (by kernel_rfl) (Fr.drew (Fr.refl _ _)) (fun hHeld => ?_)
        clear hHeld
        have hHeld : Fr (fun _ => False) w15 w15.drew := Fr.drew (Fr.refl _ _)
        have hz_0 : w15.heap.size ≤ w15.drew.heap.size := Nat.le_refl _
        obtain ⟨v_101, hw⟩ : ∃ v_101, v_101 = w15.drew := ⟨_, rfl⟩
        rw [← hw] at hHeld hz_0 st0 ⊢
        clear hw
        refine wpAnyH_take (i := 0) (oi := ⟨some 37, _, _, _, _, _⟩) (v := ?vg0_102) rfl (by kernel_rfl) (by kernel_rfl) (by kernel_rfl) (fun _ _ _ h => h) (Or.inl ⟨by rfl, ?yg0_102⟩) hHeld ?rg0_102
        case yg0_102 =>
          intro wq hSw
          (try dsimp only at hSw)
          have hx : wq.heap[w12.heap.size]? = some (boxM m12.r m12.c A12 m12.l.length cp12) := hSw.row_some (S15.out.vars ⟨w12.heap.size, m12, A12, cp12⟩ (List.mem_iff_getElem?.2 ⟨1, rfl⟩)).box (fun h => h)
          have q0 := boxM_0 hx; have q1 := boxM_1 hx; have q2 := boxM_2 hx
          clear hx
          first | (go_simp; done) | (go_simp; with_reducible rfl)
        try simp only [Act.put, List.setIfInBounds_toArray, List.set_cons_zero, List.set_cons_succ]
        refine wpAnyH_take (i := 1) (oi := ⟨some 38, _, _, _, _, _⟩) (v := ?vg1_103) rfl (by kernel_rfl) (by kernel_rfl) (by kernel_rfl) (fun _ _ _ h => h) (Or.inl ⟨by rfl, ?yg1_103⟩) hHeld ?rg1_103
        case yg1_103 =>
          intro wq hSw
          (try dsimp only at hSw)
          have hx : wq.heap[w14.heap.size]? = some (boxM m14.r m14.c A14 m14.l.length cp14) := hSw.row_some (S15.out.vars ⟨w14.heap.size, m14, A14, cp14⟩ (List.mem_iff_getElem?.2 ⟨0, rfl⟩)).box (fun h => h)
          have q0 := boxM_0 hx; have q1 := boxM_1 hx; have q2 := boxM_2 hx
          clear hx
          first | (go_simp; done) | (go_simp; with_reducible rfl)
        try simp only [Act.put, List.setIfInBounds_toArray, List.set_cons_zero, List.set_cons_succ]
        refine wpAnyH_ready (rs := [2]) (by kernel_rfl) (by simp) ?_
        refine AllReadyH.cons (o := ⟨some 39, _, _, _, _, _⟩) rfl (fun K hK => ?_) (AllReadyH.nil)
        go_simp
        have hh := same_yes m12 m14 A12 A14 cp12 cp14 v_101 (st0.out.vars ⟨w12.heap.size, m12, A12, cp12⟩ (List.mem_iff_getElem?.2 ⟨1, rfl⟩)).sl (st0.out.vars ⟨w14.heap.size, m14, A14, cp14⟩ (List.mem_iff_getElem?.2 ⟨0, rfl⟩)).sl Hab.out
        refine hh.mono ?_; clear hh; rintro e v_104 ⟨rfl, hb⟩
        have st_105 := Lib.hid (st0.out.later hb)
        have hfN : Fr (fun _ => False) v_101 v_104 := Fr.of_below hb
        clear hb
        go_wp2_with fail
        have hHeld := hHeld.trans hfN
        have hz_106 := hfN.size
        refine hK.out _ _ hHeld (fun _ => ?_)
        clear hK K hfN
        try simp only [Act.put, List.setIfInBounds_toArray, List.set_cons_zero, List.set_cons_succ]
        refine wpAnyH_take (i := 3) (oi := ⟨some 40, _, _, _, _, _⟩) (v := ?vg3_107) rfl (by kernel_rfl) (by kernel_rfl) (by kernel_rfl) (fun _ _ _ h => h) (Or.inl ⟨by rfl, ?yg3_107⟩) hHeld ?rg3_107
        case yg3_107 =>
          intro wq hSw
          (try dsimp only at hSw)
          first | (go_simp; done) | (go_simp; with_reducible rfl)
        try simp only [Act.put, List.setIfInBounds_toArray, List.set_cons_zero, List.set_cons_succ]
        refine wpAnyH_take (i := 4) (oi := ⟨some 41, _, _, _, _, _⟩) (v := ?vg4_108) rfl (by kernel_rfl) (by kernel_rfl) (by kernel_rfl) (fun _ _ _ h => h) (Or.inl ⟨by rfl, ?yg4_108⟩) hHeld ?rg4_108
        case yg4_108 =>
          intro wq hSw
          (try dsimp only at hSw)
          first | (go_simp; done) | (go_simp; with_reducible rfl)
        try simp only [Act.put, List.setIfInBounds_toArray, List.set_cons_zero, List.set_cons_succ]
        refine wpAnyH_take (i := 5) (oi := ⟨some 42, _, _, _, _, _⟩) (v := ?vg5_109) rfl (by kernel_rfl) (by kernel_rfl) (by kernel_rfl) (fun _ _ _ h => h) (Or.inl ⟨by rfl, ?yg5_109⟩) hHeld ?rg5_109
        case yg5_109 =>
          intro wq hSw
          (try dsimp only at hSw)
          first | (go_simp; done) | (go_simp; with_reducible rfl)
        try simp only [Act.put, List.setIfInBounds_toArray, List.set_cons_zero, List.set_cons_succ]
        refine wpAnyH_take (i := 6) (oi := ⟨some 43, _, _, _, _, _⟩) (v := ?vg6_110) rfl (by kernel_rfl) (by kernel_rfl) (by kernel_rfl) (fun _ _ _ h => h) (Or.inl ⟨by rfl, ?yg6_110⟩) hHeld ?rg6_110
        case yg6_110 =>
          intro wq hSw
          (try dsimp only at hSw)
          first | (go_simp; done) | (go_simp; with_reducible rfl)
        try simp only [Act.put, List.setIfInBounds_toArray, List.set_cons_zero, List.set_cons_succ]
        refine wpAnyH_take (i := 7) (oi := ⟨some 44, _, _, _, _, _⟩) (v := ?vg7_111) rfl (by kernel_rfl) (by kernel_rfl) (by kernel_rfl) (fun _ _ _ h => h) (Or.inl ⟨by rfl, ?yg7_111⟩) hHeld ?rg7_111
        case yg7_111 =>
          intro wq hSw
          (try dsimp only at hSw)
          first | (go_simp; done) | (go_simp; with_reducible rfl)
        try simp only [Act.put, List.setIfInBounds_toArray, List.set_cons_zero, List.set_cons_succ]
        refine wpAnyH_take (i := 8) (oi := ⟨some 45, _, _, _, _, _⟩) (v := ?vg8_112) rfl (by kernel_rfl) (by kernel_rfl) (by kernel_rfl) (fun _ _ _ h => h) (Or.inl ⟨by rfl, ?yg8_112⟩) hHeld ?rg8_112
        case yg8_112 =>
          intro wq hSw
          (try dsimp only at hSw)
          first | (go_simp; done) | (go_simp; with_reducible rfl)
        try simp only [Act.put, List.setIfInBounds_toArray, List.set_cons_zero, List.set_cons_succ]
        refine wpAnyH_take (i := 9) (oi := ⟨some 46, _, _, _, _, _⟩) (v := ?vg9_113) rfl (by kernel_rfl) (by kernel_rfl) (by kernel_rfl) (fun _ _ _ h => h) (Or.inl ⟨by rfl, ?yg9_113⟩) hHeld ?rg9_113
        case yg9_113 =>
          intro wq hSw
          (try dsimp only at hSw)
          first | (go_simp; done) | (go_simp; with_reducible rfl)
        try simp only [Act.put, List.setIfInBounds_toArray, List.set_cons_zero, List.set_cons_succ]
        refine wpAnyH_take (i := 10) (oi := ⟨some 47, _, _, _, _, _⟩) (v := ?vg10_114) rfl (by kernel_rfl) (by kernel_rfl) (by kernel_rfl) (fun _ _ _ h => h) (Or.inl ⟨by rfl, ?yg10_114⟩) hHeld ?rg10_114
        case yg10_114 =>
          intro wq hSw
          (try dsimp only at hSw)
          have hx : wq.heap[w.heap.size]? = some (boxM m.r m.c P m.l.length p) := hSw.row_some (S15.out.vars ⟨w.heap.size, m, P, p⟩ (List.mem_iff_getElem?.2 ⟨2, rfl⟩)).box (fun h => h)
          have q0 := boxM_0 hx; have q1 := boxM_1 hx; have q2 := boxM_2 hx
          clear hx
          first | (go_simp; done) | (go_simp; with_reducible rfl)
        try simp only [Act.put, List.setIfInBounds_toArray, List.set_cons_zero, List.set_cons_succ]
        refine wpAnyH_take (i := 12) (oi := ⟨some 49, _, _, _, _, _⟩) (v := ?vg12_115) rfl (by kernel_rfl) (by kernel_rfl) (by kernel_rfl) (fun _ _ _ h => h) (Or.inl ⟨by rfl, ?yg12_115⟩) hHeld ?rg12_115
        case yg12_115 =>
          intro wq hSw
          (try dsimp only at hSw)
          have hx : wq.heap[w.heap.size]? = some (boxM m.r m.c P m.l.length p) := hSw.row_some (S15.out.vars ⟨w.heap.size, m, P, p⟩ (List.mem_iff_getElem?.2 ⟨2, rfl⟩)).box (fun h => h)
          have q0 := boxM_0 hx; have q1 := boxM_1 hx; have q2 := boxM_2 hx
          clear hx
          first | (go_simp; done) | (go_simp; with_reducible rfl)
        try simp only [Act.put, List.setIfInBounds_toArray, List.set_cons_zero, List.set_cons_succ]
        refine wpAnyH_ready (rs := [11]) (by kernel_rfl) (by simp) ?_
        refine AllReadyH.cons (o := ⟨some 48, _, _, _, _, _⟩) rfl (fun K hK => ?_) (AllReadyH.nil)
        go_simp
        have hh := right_any m.r m.c P m.l.length p hlim v_104
        refine hh.mono ?_; clear hh; rintro e v_116 ⟨rfl, hb⟩
        have st_117 := Lib.hid (st_105.out.later hb)
        have hfN : Fr (fun _ => False) v_104 v_116 := Fr.of_below hb
        clear hb
        go_wp2_with fail
        have hHeld := hHeld.trans hfN
        have hz_118 := hfN.size
        refine hK.out _ _ hHeld (fun _ => ?_)
        clear hK K hfN
        try simp only [Act.put, List.setIfInBounds_toArray, List.set_cons_zero, List.set_cons_succ]
        refine wpAnyH_ready (rs := [13]) (by kernel_rfl) (by simp) ?_
        refine AllReadyH.cons (o := ⟨some 50, _, _, _, _, _⟩) rfl (fun K hK => ?_) (AllReadyH.nil)
        go_simp
        have hh := rright_any m.r m.c P m.l.length p hlim v_116
        refine hh.mono ?_; clear hh; rintro e v_119 ⟨rfl, hb⟩
        have st_120 := Lib.hid (st_117.out.later hb)
        have hfN : Fr (fun _ => False) v_116 v_119 := Fr.of_below hb
        clear hb
        go_wp2_with fail
        have hHeld := hHeld.trans hfN
        have hz_121 := hfN.size
        refine hK.out _ _ hHeld (fun _ => ?_)
        clear hK K hfN
        try simp only [Act.put, List.setIfInBounds_toArray, List.set_cons_zero, List.set_cons_succ]
        refine wpAnyH_take (i := 14) (oi := ⟨some 51, _, _, _, _, _⟩) (v := ?vg14_122) rfl (by kernel_rfl) (by kernel_rfl) (by kernel_rfl) (fun _ _ _ h => h) (Or.inl ⟨by rfl, ?yg14_122⟩) hHeld ?rg14_122
        case yg14_122 =>
          intro wq hSw
          (try dsimp only at hSw)
          first | (go_simp; done) | (go_simp; with_reducible rfl)
        try simp only [Act.put, List.setIfInBounds_toArray, List.set_cons_zero, List.set_cons_succ]
        refine wpAnyH_take (i := 15) (oi := ⟨some 52, _, _, _, _, _⟩) (v := ?vg15_123) rfl (by kernel_rfl) (by kernel_rfl) (by kernel_rfl) (fun _ _ _ h => h) (Or.inl ⟨by rfl, ?yg15_123⟩) hHeld ?rg15_123
        case yg15_123 =>
          intro wq hSw
          (try dsimp only at hSw)
          first | (go_simp; done) | (go_simp; with_reducible rfl)
        try simp only [Act.put, List.setIfInBounds_toArray, List.set_cons_zero, List.set_cons_succ]
        refine wpAnyH_done (by kernel_rfl) ?_ _
        go_wp2_with fail
        go_meet
        case rel => exact ⟨rfl, st_120.out⟩
      case rest =>
        obtain ⟨rfl, hS⟩ := hcut
        have S16 := Lib.hid hS; clear hS S15
        go_wp2_with fail
        go_loopw [11] (fun i wr => ∃ i' : Nat, i' ≤ rows.length ∧ i = .int .i64 (i' : Int) ∧ Vs w [⟨w14.heap.size, m14, A14, cp14⟩, ⟨w12.heap.size, m12, A12, cp12⟩, ⟨w.heap.size, m, P, p⟩] wr) (fun i _ => rows.length - (intOf i).toNat)
        case atStart => exact ⟨0, by omega, rfl, S16.out⟩
        case round =>
          obtain ⟨i, hi', rfl, hS⟩ := hrel
          have SL := Lib.hid hS; clear hS S16
          by_cases hi : i < rows.length
          · have di : decide ((i : Int) < (rows.length : Int)) = true := by simp; omega
            by_cases h20 : i < 20
            · have d20 : decide ((i : Int) < 20) = true := by simp; omega
              obtain ⟨gb, o1, rfl, hc⟩ := (s2h.out.below SL.out.below (Nat.le_refl _)).at_ hi
              have hzz : rows.getD i 0 = rows[i] := by simp [hi]
              have hcell := hc i _ (icells_get rows i hi)
              rw [← hzz] at hcell
              obtain ⟨z, hz⟩ : ∃ z, z = rows.getD i 0 := ⟨_, rfl⟩
              rw [← hz] at hcell
              clear hz hzz hc
              have HC := Lib.hid hcell; clear hcell
              obtain ⟨u1, hu1⟩ : ∃ u, u = atR m.r m.c m.l.length m.l z y := ⟨_, rfl⟩
              have Hu1 := Lib.hid hu1; clear hu1
              obtain ⟨u2, hu2⟩ : ∃ u, u = atR m.r m.c m.l.length m.l y z := ⟨_, rfl⟩
              have Hu2 := Lib.hid hu2; clear hu2
              skip
              go_wp2_with fail
              go_upto_region 10 with (fail)
              go_cut [94] (fun vv wx => vv = .bool false ∧ Vs w [⟨w14.heap.size, m14, A14, cp14⟩, ⟨w12.heap.size, m12, A12, cp12⟩, ⟨w.heap.size, m, P, p⟩] wx)
              case first =>
                have st0 := Lib.hid (SL.out.later (Below.drew (Below.refl _ _)))
                refine wp_region_held_drew (S := fun w' => Fr (fun _ => False) wr w') (by kernel_rfl) (Fr.drew (Fr.refl _ _)) (fun hHeld => ?_)
                clear hHeld
                have hHeld : Fr (fun _ => False) wr wr.drew := Fr.drew (Fr.refl _ _)
                have hz_0 : wr.heap.size ≤ wr.drew.heap.size := Nat.le_refl _
                obtain ⟨v_201, hw⟩ : ∃ v_201, v_201 = wr.drew := ⟨_, rfl⟩
                rw [← hw] at hHeld hz_0 st0 ⊢
                clear hw
                refine wpAnyH_take (i := 0) (oi := ⟨some 63, _, _, _, _, _⟩) (v := ?vg0_202) rfl (by kernel_rfl) (by kernel_rfl) (by kernel_rfl) (fun _ _ _ h => h) (Or.inl ⟨by rfl, ?yg0_202⟩) hHeld ?rg0_202
                case yg0_202 =>
                  intro wq hSw
                  (try dsimp only at hSw)
                  have hx : wq.heap[w.heap.size]? = some (boxM m.r m.c P m.l.length p) := hSw.row_some (SL.out.vars ⟨w.heap.size, m, P, p⟩ (List.mem_iff_getElem?.2 ⟨2, rfl⟩)).box (fun h => h)
                  have q0 := boxM_0 hx; have q1 := boxM_1 hx; have q2 := boxM_2 hx
                  clear hx
                  first | (go_simp; done) | (go_simp; with_reducible rfl)
                try simp only [Act.put, List.setIfInBounds_toArray, List.set_cons_zero, List.set_cons_succ]
                refine wpAnyH_take (i := 1) (oi := ⟨some 64, _, _, _, _, _⟩) (v := ?vg1_203) rfl (by kernel_rfl) (by kernel_rfl) (by kernel_rfl) (fun _ _ _ h => h) (Or.inl ⟨by rfl, ?yg1_203⟩) hHeld ?rg1_203
                case yg1_203 =>
                  intro wq hSw
                  (try dsimp only at hSw)
                  first | (go_simp; done) | (go_simp; with_reducible rfl)
                try simp only [Act.put, List.setIfInBounds_toArray, List.set_cons_zero, List.set_cons_succ]
                refine wpAnyH_take (i := 2) (oi := ⟨some 65, _, _, _, _, _⟩) (v := ?vg2_204) rfl (by kernel_rfl) (by kernel_rfl) (by kernel_rfl) (fun _ _ _ h => h) (Or.inl ⟨by rfl, ?yg2_204⟩) hHeld ?rg2_204
                case yg2_204 =>
                  intro wq hSw
                  (try dsimp only at hSw)
                  first | (go_simp; done) | (go_simp; with_reducible rfl)
                try simp only [Act.put, List.setIfInBounds_toArray, List.set_cons_zero, List.set_cons_succ]
                refine wpAnyH_take (i := 3) (oi := ⟨some 66, _, _, _, _, _⟩) (v := ?vg3_205) rfl (by kernel_rfl) (by kernel_rfl) (by kernel_rfl) (fun _ _ _ h => h) (Or.inl ⟨by rfl, ?yg3_205⟩) hHeld ?rg3_205
                case yg3_205 =>
                  intro wq hSw
                  (try dsimp only at hSw)
                  have hi0 : (0 : Int) ≤ (i : Int) := by omega
                  have hi1 : (i : Int) < (rows.length : Int) := by omega
                  first | (go_simp; done) | (go_simp; with_reducible rfl)
                try simp only [Act.put, List.setIfInBounds_toArray, List.set_cons_zero, List.set_cons_succ]
                refine wpAnyH_take (i := 4) (oi := ⟨some 67, _, _, _, _, _⟩) (v := ?vg4_206) rfl (by kernel_rfl) (by kernel_rfl) (by kernel_rfl) (fun _ _ _ h => h) (Or.inl ⟨by rfl, ?yg4_206⟩) hHeld ?rg4_206
                case yg4_206 =>
                  intro wq hSw
                  (try dsimp only at hSw)
                  have q0 := hSw.cell_some HC.out (fun h => h)
                  first | (go_simp; done) | (go_simp; with_reducible rfl)
                try simp only [Act.put, List.setIfInBounds_toArray, List.set_cons_zero, List.set_cons_succ]
                refine wpAnyH_take (i := 5) (oi := ⟨some 68, _, _, _, _, _⟩) (v := ?vg5_207) rfl (by kernel_rfl) (by kernel_rfl) (by kernel_rfl) (fun _ _ _ h => h) (Or.inl ⟨by rfl, ?yg5_207⟩) hHeld ?rg5_207
                case yg5_207 =>
                  intro wq hSw
                  (try dsimp only at hSw)
                  first | (go_simp; done) | (go_simp; with_reducible rfl)
                try simp only [Act.put, List.setIfInBounds_toArray, List.set_cons_zero, List.set_cons_succ]
                refine wpAnyH_take (i := 7) (oi := ⟨some 70, _, _, _, _, _⟩) (v := ?vg7_208) rfl (by kernel_rfl) (by kernel_rfl) (by kernel_rfl) (fun _ _ _ h => h) (Or.inl ⟨by rfl, ?yg7_208⟩) hHeld ?rg7_208
                case yg7_208 =>
                  intro wq hSw
                  (try dsimp only at hSw)
                  have hx : wq.heap[w.heap.size]? = some (boxM m.r m.c P m.l.length p) := hSw.row_some (SL.out.vars ⟨w.heap.size, m, P, p⟩ (List.mem_iff_getElem?.2 ⟨2, rfl⟩)).box (fun h => h)
                  have q0 := boxM_0 hx; have q1 := boxM_1 hx; have q2 := boxM_2 hx
                  clear hx
                  first | (go_simp; done) | (go_simp; with_reducible rfl)
                try simp only [Act.put, List.setIfInBounds_toArray, List.set_cons_zero, List.set_cons_succ]
                refine wpAnyH_take (i := 8) (oi := ⟨some 71, _, _, _, _, _⟩) (v := ?vg8_209) rfl (by kernel_rfl) (by kernel_rfl) (by kernel_rfl) (fun _ _ _ h => h) (Or.inl ⟨by rfl, ?yg8_209⟩) hHeld ?rg8_209
                case yg8_209 =>
                  intro wq hSw
                  (try dsimp only at hSw)
                  first | (go_simp; done) | (go_simp; with_reducible rfl)
                try simp only [Act.put, List.setIfInBounds_toArray, List.set_cons_zero, List.set_cons_succ]
                refine wpAnyH_take (i := 9) (oi := ⟨some 72, _, _, _, _, _⟩) (v := ?vg9_210) rfl (by kernel_rfl) (by kernel_rfl) (by kernel_rfl) (fun _ _ _ h => h) (Or.inl ⟨by rfl, ?yg9_210⟩) hHeld ?rg9_210
                case yg9_210 =>
                  intro wq hSw
                  (try dsimp only at hSw)
                  first | (go_simp; done) | (go_simp; with_reducible rfl)
                try simp only [Act.put, List.setIfInBounds_toArray, List.set_cons_zero, List.set_cons_succ]
                refine wpAnyH_take (i := 10) (oi := ⟨some 73, _, _, _, _, _⟩) (v := ?vg10_211) rfl (by kernel_rfl) (by kernel_rfl) (by kernel_rfl) (fun _ _ _ h => h) (Or.inl ⟨by rfl, ?yg10_211⟩) hHeld ?rg10_211
                case yg10_211 =>
                  intro wq hSw
                  (try dsimp only at hSw)
                  have hi0 : (0 : Int) ≤ (i : Int) := by omega
                  have hi1 : (i : Int) < (rows.length : Int) := by omega
                  first | (go_simp; done) | (go_simp; with_reducible rfl)
                try simp only [Act.put, List.setIfInBounds_toArray, List.set_cons_zero, List.set_cons_succ]
                refine wpAnyH_take (i := 11) (oi := ⟨some 74, _, _, _, _, _⟩) (v := ?vg11_212) rfl (by kernel_rfl) (by kernel_rfl) (by kernel_rfl) (fun _ _ _ h => h) (Or.inl ⟨by rfl, ?yg11_212⟩) hHeld ?rg11_212
                case yg11_212 =>
                  intro wq hSw
                  (try dsimp only at hSw)
                  have q0 := hSw.cell_some HC.out (fun h => h)
                  first | (go_simp; done) | (go_simp; with_reducible rfl)
                try simp only [Act.put, List.setIfInBounds_toArray, List.set_cons_zero, List.set_cons_succ]
                refine wpAnyH_take (i := 12) (oi := ⟨some 75, _, _, _, _, _⟩) (v := ?vg12_213) rfl (by kernel_rfl) (by kernel_rfl) (by kernel_rfl) (fun _ _ _ h => h) (Or.inl ⟨by rfl, ?yg12_213⟩) hHeld ?rg12_213
                case yg12_213 =>
                  intro wq hSw
                  (try dsimp only at hSw)
                  first | (go_simp; done) | (go_simp; with_reducible rfl)
                try simp only [Act.put, List.setIfInBounds_toArray, List.set_cons_zero, List.set_cons_succ]
                refine wpAnyH_ready (rs := [6]) (by kernel_rfl) (by simp) ?_
                refine AllReadyH.cons (o := ⟨some 69, _, _, _, _, _⟩) rfl (fun K hK => ?_) (AllReadyH.nil)
                go_simp
                have hh := mat_any m.r m.c P m.l.length p m.l z y v_201 ((st0.out.vars ⟨w.heap.size, m, P, p⟩ (List.mem_iff_getElem?.2 ⟨2, rfl⟩)).sl)
                rw [← Hu1.out] at hh
                refine hh.mono ?_; clear hh; rintro e v_214 ⟨rfl, hb⟩
                have st_215 := Lib.hid (st0.out.later hb)
                have hfN : Fr (fun _ => False) v_201 v_214 := Fr.of_below hb
                clear hb
                go_wp2_with fail
                have hHeld := hHeld.trans hfN
                have hz_216 := hfN.size
                refine hK.out _ _ hHeld (fun _ => ?_)
                clear hK K hfN
                try simp only [Act.put, List.setIfInBounds_toArray, List.set_cons_zero, List.set_cons_succ]
                refine wpAnyH_ready (rs := [13]) (by kernel_rfl) (by simp) ?_
                refine AllReadyH.cons (o := ⟨some 76, _, _, _, _, _⟩) rfl (fun K hK => ?_) (AllReadyH.nil)
                go_simp
                have hh := rat_any m.r m.c P m.l.length p m.l z y v_214 ((st_215.out.vars ⟨w.heap.size, m, P, p⟩ (List.mem_iff_getElem?.2 ⟨2, rfl⟩)).sl)
                rw [← Hu1.out] at hh
                refine hh.mono ?_; clear hh; rintro e v_217 ⟨rfl, hb⟩
                have st_218 := Lib.hid (st_215.out.later hb)
                have hfN : Fr (fun _ => False) v_214 v_217 := Fr.of_below hb
                clear hb
                go_wp2_with fail
                have hHeld := hHeld.trans hfN
                have hz_219 := hfN.size
                refine hK.out _ _ hHeld (fun _ => ?_)
                clear hK K hfN
                try simp only [Act.put, List.setIfInBounds_toArray, List.set_cons_zero, List.set_cons_succ]
                refine wpAnyH_take (i := 14) (oi := ⟨some 77, _, _, _, _, _⟩) (v := ?vg14_220) rfl (by kernel_rfl) (by kernel_rfl) (by kernel_rfl) (fun _ _ _ h => h) (Or.inl ⟨by rfl, ?yg14_220⟩) hHeld ?rg14_220
                case yg14_220 =>
                  intro wq hSw
                  (try dsimp only at hSw)
                  first | (go_simp; done) | (go_simp; with_reducible rfl)
                try simp only [Act.put, List.setIfInBounds_toArray, List.set_cons_zero, List.set_cons_succ]
                refine wpAnyH_take (i := 15) (oi := ⟨some 78, _, _, _, _, _⟩) (v := ?vg15_221) rfl (by kernel_rfl) (by kernel_rfl) (by kernel_rfl) (fun _ _ _ h => h) (Or.inl ⟨by rfl, ?yg15_221⟩) hHeld ?rg15_221
                case yg15_221 =>
                  intro wq hSw
                  (try dsimp only at hSw)
                  first | (go_simp; done) | (go_simp; with_reducible rfl)
                try simp only [Act.put, List.setIfInBounds_toArray, List.set_cons_zero, List.set_cons_succ]
                refine wpAnyH_take (i := 16) (oi := ⟨some 79, _, _, _, _, _⟩) (v := ?vg16_222) rfl (by kernel_rfl) (by kernel_rfl) (by kernel_rfl) (fun _ _ _ h => h) (Or.inl ⟨by rfl, ?yg16_222⟩) hHeld ?rg16_222
                case yg16_222 =>
                  intro wq hSw
                  (try dsimp only at hSw)
                  have hx : wq.heap[w.heap.size]? = some (boxM m.r m.c P m.l.length p) := hSw.row_some (SL.out.vars ⟨w.heap.size, m, P, p⟩ (List.mem_iff_getElem?.2 ⟨2, rfl⟩)).box (fun h => h)
                  have q0 := boxM_0 hx; have q1 := boxM_1 hx; have q2 := boxM_2 hx
                  clear hx
                  first | (go_simp; done) | (go_simp; with_reducible rfl)
                try simp only [Act.put, List.setIfInBounds_toArray, List.set_cons_zero, List.set_cons_succ]
                refine wpAnyH_take (i := 17) (oi := ⟨some 80, _, _, _, _, _⟩) (v := ?vg17_223) rfl (by kernel_rfl) (by kernel_rfl) (by kernel_rfl) (fun _ _ _ h => h) (Or.inl ⟨by rfl, ?yg17_223⟩) hHeld ?rg17_223
                case yg17_223 =>
                  intro wq hSw
                  (try dsimp only at hSw)
                  first | (go_simp; done) | (go_simp; with_reducible rfl)
                try simp only [Act.put, List.setIfInBounds_toArray, List.set_cons_zero, List.set_cons_succ]
                refine wpAnyH_take (i := 18) (oi := ⟨some 81, _, _, _, _, _⟩) (v := ?vg18_224) rfl (by kernel_rfl) (by kernel_rfl) (by kernel_rfl) (fun _ _ _ h => h) (Or.inl ⟨by rfl, ?yg18_224⟩) hHeld ?rg18_224
                case yg18_224 =>
                  intro wq hSw
                  (try dsimp only at hSw)
                  first | (go_simp; done) | (go_simp; with_reducible rfl)
                try simp only [Act.put, List.setIfInBounds_toArray, List.set_cons_zero, List.set_cons_succ]
                refine wpAnyH_take (i := 19) (oi := ⟨some 82, _, _, _, _, _⟩) (v := ?vg19_225) rfl (by kernel_rfl) (by kernel_rfl) (by kernel_rfl) (fun _ _ _ h => h) (Or.inl ⟨by rfl, ?yg19_225⟩) hHeld ?rg19_225
                case yg19_225 =>
                  intro wq hSw
                  (try dsimp only at hSw)
                  first | (go_simp; done) | (go_simp; with_reducible rfl)
                try simp only [Act.put, List.setIfInBounds_toArray, List.set_cons_zero, List.set_cons_succ]
                refine wpAnyH_take (i := 20) (oi := ⟨some 83, _, _, _, _, _⟩) (v := ?vg20_226) rfl (by kernel_rfl) (by kernel_rfl) (by kernel_rfl) (fun _ _ _ h => h) (Or.inl ⟨by rfl, ?yg20_226⟩) hHeld ?rg20_226
                case yg20_226 =>
                  intro wq hSw
                  (try dsimp only at hSw)
                  have hi0 : (0 : Int) ≤ (i : Int) := by omega
                  have hi1 : (i : Int) < (rows.length : Int) := by omega
                  first | (go_simp; done) | (go_simp; with_reducible rfl)
                try simp only [Act.put, List.setIfInBounds_toArray, List.set_cons_zero, List.set_cons_succ]
                refine wpAnyH_take (i := 21) (oi := ⟨some 84, _, _, _, _, _⟩) (v := ?vg21_227) rfl (by kernel_rfl) (by kernel_rfl) (by kernel_rfl) (fun _ _ _ h => h) (Or.inl ⟨by rfl, ?yg21_227⟩) hHeld ?rg21_227
                case yg21_227 =>
                  intro wq hSw
                  (try dsimp only at hSw)
                  have q0 := hSw.cell_some HC.out (fun h => h)
                  first | (go_simp; done) | (go_simp; with_reducible rfl)
                try simp only [Act.put, List.setIfInBounds_toArray, List.set_cons_zero, List.set_cons_succ]
                refine wpAnyH_take (i := 23) (oi := ⟨some 86, _, _, _, _, _⟩) (v := ?vg23_228) rfl (by kernel_rfl) (by kernel_rfl) (by kernel_rfl) (fun _ _ _ h => h) (Or.inl ⟨by rfl, ?yg23_228⟩) hHeld ?rg23_228
                case yg23_228 =>
                  intro wq hSw
                  (try dsimp only at hSw)
                  have hx : wq.heap[w.heap.size]? = some (boxM m.r m.c P m.l.length p) := hSw.row_some (SL.out.vars ⟨w.heap.size, m, P, p⟩ (List.mem_iff_getElem?.2 ⟨2, rfl⟩)).box (fun h => h)
                  have q0 := boxM_0 hx; have q1 := boxM_1 hx; have q2 := boxM_2 hx
                  clear hx
                  first | (go_simp; done) | (go_simp; with_reducible rfl)
                try simp only [Act.put, List.setIfInBounds_toArray, List.set_cons_zero, List.set_cons_succ]
                refine wpAnyH_take (i := 24) (oi := ⟨some 87, _, _, _, _, _⟩) (v := ?vg24_229) rfl (by kernel_rfl) (by kernel_rfl) (by kernel_rfl) (fun _ _ _ h => h) (Or.inl ⟨by rfl, ?yg24_229⟩) hHeld ?rg24_229
                case yg24_229 =>
                  intro wq hSw
                  (try dsimp only at hSw)
                  first | (go_simp; done) | (go_simp; with_reducible rfl)
                try simp only [Act.put, List.setIfInBounds_toArray, List.set_cons_zero, List.set_cons_succ]
                refine wpAnyH_take (i := 25) (oi := ⟨some 88, _, _, _, _, _⟩) (v := ?vg25_230) rfl (by kernel_rfl) (by kernel_rfl) (by kernel_rfl) (fun _ _ _ h => h) (Or.inl ⟨by rfl, ?yg25_230⟩) hHeld ?rg25_230
                case yg25_230 =>
                  intro wq hSw
                  (try dsimp only at hSw)
                  first | (go_simp; done) | (go_simp; with_reducible rfl)
                try simp only [Act.put, List.setIfInBounds_toArray, List.set_cons_zero, List.set_cons_succ]
                refine wpAnyH_take (i := 26) (oi := ⟨some 89, _, _, _, _, _⟩) (v := ?vg26_231) rfl (by kernel_rfl) (by kernel_rfl) (by kernel_rfl) (fun _ _ _ h => h) (Or.inl ⟨by rfl, ?yg26_231⟩) hHeld ?rg26_231
                case yg26_231 =>
                  intro wq hSw
                  (try dsimp only at hSw)
                  first | (go_simp; done) | (go_simp; with_reducible rfl)
                try simp only [Act.put, List.setIfInBounds_toArray, List.set_cons_zero, List.set_cons_succ]
                refine wpAnyH_take (i := 27) (oi := ⟨some 90, _, _, _, _, _⟩) (v := ?vg27_232) rfl (by kernel_rfl) (by kernel_rfl) (by kernel_rfl) (fun _ _ _ h => h) (Or.inl ⟨by rfl, ?yg27_232⟩) hHeld ?rg27_232
                case yg27_232 =>
                  intro wq hSw
                  (try dsimp only at hSw)
                  have hi0 : (0 : Int) ≤ (i : Int) := by omega
                  have hi1 : (i : Int) < (rows.length : Int) := by omega
                  first | (go_simp; done) | (go_simp; with_reducible rfl)
                try simp only [Act.put, List.setIfInBounds_toArray, List.set_cons_zero, List.set_cons_succ]
                refine wpAnyH_take (i := 28) (oi := ⟨some 91, _, _, _, _, _⟩) (v := ?vg28_233) rfl (by kernel_rfl) (by kernel_rfl) (by kernel_rfl) (fun _ _ _ h => h) (Or.inl ⟨by rfl, ?yg28_233⟩) hHeld ?rg28_233
                case yg28_233 =>
                  intro wq hSw
                  (try dsimp only at hSw)
                  have q0 := hSw.cell_some HC.out (fun h => h)
                  first | (go_simp; done) | (go_simp; with_reducible rfl)
                try simp only [Act.put, List.setIfInBounds_toArray, List.set_cons_zero, List.set_cons_succ]
                refine wpAnyH_ready (rs := [22]) (by kernel_rfl) (by simp) ?_
                refine AllReadyH.cons (o := ⟨some 85, _, _, _, _, _⟩) rfl (fun K hK => ?_) (AllReadyH.nil)
                go_simp
                have hh := mat_any m.r m.c P m.l.length p m.l y z v_217 ((st_218.out.vars ⟨w.heap.size, m, P, p⟩ (List.mem_iff_getElem?.2 ⟨2, rfl⟩)).sl)
                rw [← Hu2.out] at hh
                refine hh.mono ?_; clear hh; rintro e v_234 ⟨rfl, hb⟩
                have st_235 := Lib.hid (st_218.out.later hb)
                have hfN : Fr (fun _ => False) v_217 v_234 := Fr.of_below hb
                clear hb
                go_wp2_with fail
                have hHeld := hHeld.trans hfN
                have hz_236 := hfN.size
                refine hK.out _ _ hHeld (fun _ => ?_)
                clear hK K hfN
                try simp only [Act.put, List.setIfInBounds_toArray, List.set_cons_zero, List.set_cons_succ]
                refine wpAnyH_ready (rs := [29]) (by kernel_rfl) (by simp) ?_
                refine AllReadyH.cons (o := ⟨some 92, _, _, _, _, _⟩) rfl (fun K hK => ?_) (AllReadyH.nil)
                go_simp
                have hh := rat_any m.r m.c P m.l.length p m.l y z v_234 ((st_235.out.vars ⟨w.heap.size, m, P, p⟩ (List.mem_iff_getElem?.2 ⟨2, rfl⟩)).sl)
                rw [← Hu2.out] at hh
                refine hh.mono ?_; clear hh; rintro e v_237 ⟨rfl, hb⟩
                have st_238 := Lib.hid (st_235.out.later hb)
                have hfN : Fr (fun _ => False) v_234 v_237 := Fr.of_below hb
                clear hb
                go_wp2_with fail
                have hHeld := hHeld.trans hfN
                have hz_239 := hfN.size
                refine hK.out _ _ hHeld (fun _ => ?_)
                clear hK K hfN
                try simp only [Act.put, List.setIfInBounds_toArray, List.set_cons_zero, List.set_cons_succ]
                refine wpAnyH_take (i := 30) (oi := ⟨some 93, _, _, _, _, _⟩) (v := ?vg30_240) rfl (by kernel_rfl) (by kernel_rfl) (by kernel_rfl) (fun _ _ _ h => h) (Or.inl ⟨by rfl, ?yg30_240⟩) hHeld ?rg30_240
                case yg30_240 =>
                  intro wq hSw
                  (try dsimp only at hSw)
                  first | (go_simp; done) | (go_simp; with_reducible rfl)
                try simp only [Act.put, List.setIfInBounds_toArray, List.set_cons_zero, List.set_cons_succ]
                refine wpAnyH_take (i := 31) (oi := ⟨some 94, _, _, _, _, _⟩) (v := ?vg31_241) rfl (by kernel_rfl) (by kernel_rfl) (by kernel_rfl) (fun _ _ _ h => h) (Or.inl ⟨by rfl, ?yg31_241⟩) hHeld ?rg31_241
                case yg31_241 =>
                  intro wq hSw
                  (try dsimp only at hSw)
                  first | (go_simp; done) | (go_simp; with_reducible rfl)
                try simp only [Act.put, List.setIfInBounds_toArray, List.set_cons_zero, List.set_cons_succ]
                refine wpAnyH_done (by kernel_rfl) ?_ _
                go_wp2_with fail
                go_meet
                case rel => exact ⟨rfl, st_238.out⟩
              case rest =>
                obtain ⟨rfl, hS⟩ := hcut
                have S17 := Lib.hid hS; clear hS SL
                go_wp2_with fail
                go_roundw
                case rel => exact ⟨i + 1, by omega, by go_num, S17.out⟩
                case measure => simp [intOf]; omega
            · have d20 : decide ((i : Int) < 20) = false := by simp; omega
              by_cases hy1 : y > 40
              · have dy1 : decide (y > 40) = true := by simpa using hy1
                by_cases hy2 : y ≤ 255
                · have dy2 : decide (y ≤ 255) = true := by simpa using hy2
                  clear hy1 hy2
                  go_wp2_with fail
                  refine (stands_any _).mono ?_; rintro e w18 ⟨rfl, hb⟩
                  have hend := Lib.hid (SL.out.later hb).inn.below; clear hb
                  go_wp2_with fail
                  go_ret
                  exact ⟨rfl, hend.out⟩
                · have dy2 : decide (y ≤ 255) = false := by simpa using hy2
                  clear hy1 hy2
                  go_wp2_with fail
                  have hh := idn_all y (wr)
                  refine hh.mono ?_; clear hh; rintro e w19 ⟨⟨m19, A19, cp19, x19, rfl, hg, hR⟩, hb⟩
                  have R3 := Lib.hid hR; clear hR
                  have S19 := Lib.hid ((SL.out.later hb).add m19 A19 cp19 hg)
                  clear hg hb SL
                  rw [M3.v]
                  go_wp2_with fail
                  have hh := ridn_all y (w19.alloc (.cells #[.int .i64 m19.r, .int .i64 m19.c, .slice A19 m19.l.length cp19] 24))
                  refine hh.mono ?_; clear hh; rintro e w20 ⟨⟨m20, A20, cp20, x20, rfl, hg, hR⟩, hb⟩
                  have R4 := Lib.hid hR; clear hR
                  have S20 := Lib.hid ((S19.out.later hb).add m20 A20 cp20 hg)
                  clear hg hb S19
                  rw [M3.v]
                  obtain ⟨hab, hef⟩ := R3.out.one R4.out
                  have Hcd := Lib.hid hab; clear hab
                  subst hef
                  clear R3 R4
                  have q21_0 : (w20.alloc (.cells #[.int .i64 m20.r, .int .i64 m20.c, .slice A20 m20.l.length cp20] 24)).cell? ⟨w19.heap.size, 0, none⟩ = some (.int .i64 m19.r) := S20.out.c0 (v := ⟨w19.heap.size, m19, A19, cp19⟩) (List.mem_iff_getElem?.2 ⟨1, rfl⟩)
                  have q21_1 : (w20.alloc (.cells #[.int .i64 m20.r, .int .i64 m20.c, .slice A20 m20.l.length cp20] 24)).cell? ⟨w19.heap.size, 1, none⟩ = some (.int .i64 m19.c) := S20.out.c1 (v := ⟨w19.heap.size, m19, A19, cp19⟩) (List.mem_iff_getElem?.2 ⟨1, rfl⟩)
                  have q21_2 : (w20.alloc (.cells #[.int .i64 m20.r, .int .i64 m20.c, .slice A20 m20.l.length cp20] 24)).cell? ⟨w19.heap.size, 2, none⟩ = some (.slice A19 m19.l.length cp19) := S20.out.c2 (v := ⟨w19.heap.size, m19, A19, cp19⟩) (List.mem_iff_getElem?.2 ⟨1, rfl⟩)
                  have q22_0 : (w20.alloc (.cells #[.int .i64 m20.r, .int .i64 m20.c, .slice A20 m20.l.length cp20] 24)).cell? ⟨w20.heap.size, 0, none⟩ = some (.int .i64 m20.r) := S20.out.c0 (v := ⟨w20.heap.size, m20, A20, cp20⟩) (List.mem_iff_getElem?.2 ⟨0, rfl⟩)
                  have q22_1 : (w20.alloc (.cells #[.int .i64 m20.r, .int .i64 m20.c, .slice A20 m20.l.length cp20] 24)).cell? ⟨w20.heap.size, 1, none⟩ = some (.int .i64 m20.c) := S20.out.c1 (v := ⟨w20.heap.size, m20, A20, cp20⟩) (List.mem_iff_getElem?.2 ⟨0, rfl⟩)
                  have q22_2 : (w20.alloc (.cells #[.int .i64 m20.r, .int .i64 m20.c, .slice A20 m20.l.length cp20] 24)).cell? ⟨w20.heap.size, 2, none⟩ = some (.slice A20 m20.l.length cp20) := S20.out.c2 (v := ⟨w20.heap.size, m20, A20, cp20⟩) (List.mem_iff_getElem?.2 ⟨0, rfl⟩)
                  go_wp2_with fail
                  have hh := same_yes m19 m20 A19 A20 cp19 cp20 (w20.alloc (.cells #[.int .i64 m20.r, .int .i64 m20.c, .slice A20 m20.l.length cp20] 24)) (S20.out.vars ⟨w19.heap.size, m19, A19, cp19⟩ (List.mem_iff_getElem?.2 ⟨1, rfl⟩)).sl (S20.out.vars ⟨w20.heap.size, m20, A20, cp20⟩ (List.mem_iff_getElem?.2 ⟨0, rfl⟩)).sl Hcd.out
                  refine hh.mono ?_; clear hh; rintro e w23 ⟨rfl, hb⟩
                  have S23 := Lib.hid (S20.out.later hb)
                  clear q21_0 q21_1 q21_2 q22_0 q22_1 q22_2
                  clear hb S20
                  go_wp2_with fail
                  refine (stands_any _).mono ?_; rintro e w24 ⟨rfl, hb⟩
                  have hend := Lib.hid (S23.out.later hb).inn.below; clear hb
                  go_wp2_with fail
                  go_ret
                  exact ⟨rfl, hend.out⟩
              · have dy1 : decide (y > 40) = false := by simpa using hy1
                clear hy1
                go_wp2_with fail
                have hh := idn_all y (wr)
                refine hh.mono ?_; clear hh; rintro e w25 ⟨⟨m25, A25, cp25, x25, rfl, hg, hR⟩, hb⟩
                have R3 := Lib.hid hR; clear hR
                have S25 := Lib.hid ((SL.out.later hb).add m25 A25 cp25 hg)
                clear hg hb SL
                rw [M3.v]
                go_wp2_with fail
                have hh := ridn_all y (w25.alloc (.cells #[.int .i64 m25.r, .int .i64 m25.c, .slice A25 m25.l.length cp25] 24))
                refine hh.mono ?_; clear hh; rintro e w26 ⟨⟨m26, A26, cp26, x26, rfl, hg, hR⟩, hb⟩
                have R4 := Lib.hid hR; clear hR
                have S26 := Lib.hid ((S25.out.later hb).add m26 A26 cp26 hg)
                clear hg hb S25
                rw [M3.v]
                obtain ⟨hab, hef⟩ := R3.out.one R4.out
                have Hcd := Lib.hid hab; clear hab
                subst hef
                clear R3 R4
                have q27_0 : (w26.alloc (.cells #[.int .i64 m26.r, .int .i64 m26.c, .slice A26 m26.l.length cp26] 24)).cell? ⟨w25.heap.size, 0, none⟩ = some (.int .i64 m25.r) := S26.out.c0 (v := ⟨w25.heap.size, m25, A25, cp25⟩) (List.mem_iff_getElem?.2 ⟨1, rfl⟩)
                have q27_1 : (w26.alloc (.cells #[.int .i64 m26.r, .int .i64 m26.c, .slice A26 m26.l.length cp26] 24)).cell? ⟨w25.heap.size, 1, none⟩ = some (.int .i64 m25.c) := S26.out.c1 (v := ⟨w25.heap.size, m25, A25, cp25⟩) (List.mem_iff_getElem?.2 ⟨1, rfl⟩)
                have q27_2 : (w26.alloc (.cells #[.int .i64 m26.r, .int .i64 m26.c, .slice A26 m26.l.length cp26] 24)).cell? ⟨w25.heap.size, 2, none⟩ = some (.slice A25 m25.l.length cp25) := S26.out.c2 (v := ⟨w25.heap.size, m25, A25, cp25⟩) (List.mem_iff_getElem?.2 ⟨1, rfl⟩)
                have q28_0 : (w26.alloc (.cells #[.int .i64 m26.r, .int .i64 m26.c, .slice A26 m26.l.length cp26] 24)).cell? ⟨w26.heap.size, 0, none⟩ = some (.int .i64 m26.r) := S26.out.c0 (v := ⟨w26.heap.size, m26, A26, cp26⟩) (List.mem_iff_getElem?.2 ⟨0, rfl⟩)
                have q28_1 : (w26.alloc (.cells #[.int .i64 m26.r, .int .i64 m26.c, .slice A26 m26.l.length cp26] 24)).cell? ⟨w26.heap.size, 1, none⟩ = some (.int .i64 m26.c) := S26.out.c1 (v := ⟨w26.heap.size, m26, A26, cp26⟩) (List.mem_iff_getElem?.2 ⟨0, rfl⟩)
                have q28_2 : (w26.alloc (.cells #[.int .i64 m26.r, .int .i64 m26.c, .slice A26 m26.l.length cp26] 24)).cell? ⟨w26.heap.size, 2, none⟩ = some (.slice A26 m26.l.length cp26) := S26.out.c2 (v := ⟨w26.heap.size, m26, A26, cp26⟩) (List.mem_iff_getElem?.2 ⟨0, rfl⟩)
                go_wp2_with fail
                have hh := same_yes m25 m26 A25 A26 cp25 cp26 (w26.alloc (.cells #[.int .i64 m26.r, .int .i64 m26.c, .slice A26 m26.l.length cp26] 24)) (S26.out.vars ⟨w25.heap.size, m25, A25, cp25⟩ (List.mem_iff_getElem?.2 ⟨1, rfl⟩)).sl (S26.out.vars ⟨w26.heap.size, m26, A26, cp26⟩ (List.mem_iff_getElem?.2 ⟨0, rfl⟩)).sl Hcd.out
                refine hh.mono ?_; clear hh; rintro e w29 ⟨rfl, hb⟩
                have S29 := Lib.hid (S26.out.later hb)
                clear q27_0 q27_1 q27_2 q28_0 q28_1 q28_2
                clear hb S26
                go_wp2_with fail
                refine (stands_any _).mono ?_; rintro e w30 ⟨rfl, hb⟩
                have hend := Lib.hid (S29.out.later hb).inn.below; clear hb
                go_wp2_with fail
                go_ret
                exact ⟨rfl, hend.out⟩
          · have di : decide ((i : Int) < (rows.length : Int)) = false := by simp; omega
            by_cases hy1 : y > 40
            · have dy1 : decide (y > 40) = true := by simpa using hy1
              by_cases hy2 : y ≤ 255
              · have dy2 : decide (y ≤ 255) = true := by simpa using hy2
                clear hy1 hy2
                go_wp2_with fail
                refine (stands_any _).mono ?_; rintro e w31 ⟨rfl, hb⟩
                have hend := Lib.hid (SL.out.later hb).inn.below; clear hb
                go_wp2_with fail
                go_ret
                exact ⟨rfl, hend.out⟩
              · have dy2 : decide (y ≤ 255) = false := by simpa using hy2
                clear hy1 hy2
                go_wp2_with fail
                have hh := idn_all y (wr)
                refine hh.mono ?_; clear hh; rintro e w32 ⟨⟨m32, A32, cp32, x32, rfl, hg, hR⟩, hb⟩
                have R3 := Lib.hid hR; clear hR
                have S32 := Lib.hid ((SL.out.later hb).add m32 A32 cp32 hg)
                clear hg hb SL
                rw [M3.v]
                go_wp2_with fail
                have hh := ridn_all y (w32.alloc (.cells #[.int .i64 m32.r, .int .i64 m32.c, .slice A32 m32.l.length cp32] 24))
                refine hh.mono ?_; clear hh; rintro e w33 ⟨⟨m33, A33, cp33, x33, rfl, hg, hR⟩, hb⟩
                have R4 := Lib.hid hR; clear hR
                have S33 := Lib.hid ((S32.out.later hb).add m33 A33 cp33 hg)
                clear hg hb S32
                rw [M3.v]
                obtain ⟨hab, hef⟩ := R3.out.one R4.out
                have Hcd := Lib.hid hab; clear hab
                subst hef
                clear R3 R4
                have q34_0 : (w33.alloc (.cells #[.int .i64 m33.r, .int .i64 m33.c, .slice A33 m33.l.length cp33] 24)).cell? ⟨w32.heap.size, 0, none⟩ = some (.int .i64 m32.r) := S33.out.c0 (v := ⟨w32.heap.size, m32, A32, cp32⟩) (List.mem_iff_getElem?.2 ⟨1, rfl⟩)
                have q34_1 : (w33.alloc (.cells #[.int .i64 m33.r, .int .i64 m33.c, .slice A33 m33.l.length cp33] 24)).cell? ⟨w32.heap.size, 1, none⟩ = some (.int .i64 m32.c) := S33.out.c1 (v := ⟨w32.heap.size, m32, A32, cp32⟩) (List.mem_iff_getElem?.2 ⟨1, rfl⟩)
                have q34_2 : (w33.alloc (.cells #[.int .i64 m33.r, .int .i64 m33.c, .slice A33 m33.l.length cp33] 24)).cell? ⟨w32.heap.size, 2, none⟩ = some (.slice A32 m32.l.length cp32) := S33.out.c2 (v := ⟨w32.heap.size, m32, A32, cp32⟩) (List.mem_iff_getElem?.2 ⟨1, rfl⟩)
                have q35_0 : (w33.alloc (.cells #[.int .i64 m33.r, .int .i64 m33.c, .slice A33 m33.l.length cp33] 24)).cell? ⟨w33.heap.size, 0, none⟩ = some (.int .i64 m33.r) := S33.out.c0 (v := ⟨w33.heap.size, m33, A33, cp33⟩) (List.mem_iff_getElem?.2 ⟨0, rfl⟩)
                have q35_1 : (w33.alloc (.cells #[.int .i64 m33.r, .int .i64 m33.c, .slice A33 m33.l.length cp33] 24)).cell? ⟨w33.heap.size, 1, none⟩ = some (.int .i64 m33.c) := S33.out.c1 (v := ⟨w33.heap.size, m33, A33, cp33⟩) (List.mem_iff_getElem?.2 ⟨0, rfl⟩)
                have q35_2 : (w33.alloc (.cells #[.int .i64 m33.r, .int .i64 m33.c, .slice A33 m33.l.length cp33] 24)).cell? ⟨w33.heap.size, 2, none⟩ = some (.slice A33 m33.l.length cp33) := S33.out.c2 (v := ⟨w33.heap.size, m33, A33, cp33⟩) (List.mem_iff_getElem?.2 ⟨0, rfl⟩)
                go_wp2_with fail
                have hh := same_yes m32 m33 A32 A33 cp32 cp33 (w33.alloc (.cells #[.int .i64 m33.r, .int .i64 m33.c, .slice A33 m33.l.length cp33] 24)) (S33.out.vars ⟨w32.heap.size, m32, A32, cp32⟩ (List.mem_iff_getElem?.2 ⟨1, rfl⟩)).sl (S33.out.vars ⟨w33.heap.size, m33, A33, cp33⟩ (List.mem_iff_getElem?.2 ⟨0, rfl⟩)).sl Hcd.out
                refine hh.mono ?_; clear hh; rintro e w36 ⟨rfl, hb⟩
                have S36 := Lib.hid (S33.out.later hb)
                clear q34_0 q34_1 q34_2 q35_0 q35_1 q35_2
                clear hb S33
                go_wp2_with fail
                refine (stands_any _).mono ?_; rintro e w37 ⟨rfl, hb⟩
                have hend := Lib.hid (S36.out.later hb).inn.below; clear hb
                go_wp2_with fail
                go_ret
                exact ⟨rfl, hend.out⟩
            · have dy1 : decide (y > 40) = false := by simpa using hy1
              clear hy1
              go_wp2_with fail
              have hh := idn_all y (wr)
              refine hh.mono ?_; clear hh; rintro e w38 ⟨⟨m38, A38, cp38, x38, rfl, hg, hR⟩, hb⟩
              have R3 := Lib.hid hR; clear hR
              have S38 := Lib.hid ((SL.out.later hb).add m38 A38 cp38 hg)
              clear hg hb SL
              rw [M3.v]
              go_wp2_with fail
              have hh := ridn_all y (w38.alloc (.cells #[.int .i64 m38.r, .int .i64 m38.c, .slice A38 m38.l.length cp38] 24))
              refine hh.mono ?_; clear hh; rintro e w39 ⟨⟨m39, A39, cp39, x39, rfl, hg, hR⟩, hb⟩
              have R4 := Lib.hid hR; clear hR
              have S39 := Lib.hid ((S38.out.later hb).add m39 A39 cp39 hg)
              clear hg hb S38
              rw [M3.v]
              obtain ⟨hab, hef⟩ := R3.out.one R4.out
              have Hcd := Lib.hid hab; clear hab
              subst hef
              clear R3 R4
              have q40_0 : (w39.alloc (.cells #[.int .i64 m39.r, .int .i64 m39.c, .slice A39 m39.l.length cp39] 24)).cell? ⟨w38.heap.size, 0, none⟩ = some (.int .i64 m38.r) := S39.out.c0 (v := ⟨w38.heap.size, m38, A38, cp38⟩) (List.mem_iff_getElem?.2 ⟨1, rfl⟩)
              have q40_1 : (w39.alloc (.cells #[.int .i64 m39.r, .int .i64 m39.c, .slice A39 m39.l.length cp39] 24)).cell? ⟨w38.heap.size, 1, none⟩ = some (.int .i64 m38.c) := S39.out.c1 (v := ⟨w38.heap.size, m38, A38, cp38⟩) (List.mem_iff_getElem?.2 ⟨1, rfl⟩)
              have q40_2 : (w39.alloc (.cells #[.int .i64 m39.r, .int .i64 m39.c, .slice A39 m39.l.length cp39] 24)).cell? ⟨w38.heap.size, 2, none⟩ = some (.slice A38 m38.l.length cp38) := S39.out.c2 (v := ⟨w38.heap.size, m38, A38, cp38⟩) (List.mem_iff_getElem?.2 ⟨1, rfl⟩)
              have q41_0 : (w39.alloc (.cells #[.int .i64 m39.r, .int .i64 m39.c, .slice A39 m39.l.length cp39] 24)).cell? ⟨w39.heap.size, 0, none⟩ = some (.int .i64 m39.r) := S39.out.c0 (v := ⟨w39.heap.size, m39, A39, cp39⟩) (List.mem_iff_getElem?.2 ⟨0, rfl⟩)
              have q41_1 : (w39.alloc (.cells #[.int .i64 m39.r, .int .i64 m39.c, .slice A39 m39.l.length cp39] 24)).cell? ⟨w39.heap.size, 1, none⟩ = some (.int .i64 m39.c) := S39.out.c1 (v := ⟨w39.heap.size, m39, A39, cp39⟩) (List.mem_iff_getElem?.2 ⟨0, rfl⟩)
              have q41_2 : (w39.alloc (.cells #[.int .i64 m39.r, .int .i64 m39.c, .slice A39 m39.l.length cp39] 24)).cell? ⟨w39.heap.size, 2, none⟩ = some (.slice A39 m39.l.length cp39) := S39.out.c2 (v := ⟨w39.heap.size, m39, A39, cp39⟩) (List.mem_iff_getElem?.2 ⟨0, rfl⟩)
              go_wp2_with fail
              have hh := same_yes m38 m39 A38 A39 cp38 cp39 (w39.alloc (.cells #[.int .i64 m39.r, .int .i64 m39.c, .slice A39 m39.l.length cp39] 24)) (S39.out.vars ⟨w38.heap.size, m38, A38, cp38⟩ (List.mem_iff_getElem?.2 ⟨1, rfl⟩)).sl (S39.out.vars ⟨w39.heap.size, m39, A39, cp39⟩ (List.mem_iff_getElem?.2 ⟨0, rfl⟩)).sl Hcd.out
              refine hh.mono ?_; clear hh; rintro e w42 ⟨rfl, hb⟩
              have S42 := Lib.hid (S39.out.later hb)
              clear q40_0 q40_1 q40_2 q41_0 q41_1 q41_2
              clear hb S39
              go_wp2_with fail
              refine (stands_any _).mono ?_; rintro e w43 ⟨rfl, hb⟩
              have hend := Lib.hid (S42.out.later hb).inn.below; clear hb
              go_wp2_with fail
              go_ret
              exact ⟨rfl, hend.out⟩
  · rw [decide_eq_false ha] at hh0
    go_enter Try.func3, Try.ntmps3
    go_wp2_with fail
    refine hh0.mono ?_; clear hh0; rintro e w1 ⟨rfl, hb1⟩
    go_wp2_with fail
    refine (stands_any _).mono ?_; rintro e w3 ⟨rfl, hb3⟩
    go_wp2_with fail
    go_ret
    exact ⟨rfl, (hb0.trans (hb1.mono hb0.size)).trans (hb3.mono (Nat.le_trans hb0.size hb1.size))⟩
end Go.Proofs.Ytccnoflgbopjlaa
