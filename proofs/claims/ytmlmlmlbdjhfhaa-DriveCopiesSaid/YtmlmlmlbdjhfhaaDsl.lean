/-
  Layer 9's Few: it answers; true only of at most 100 acts. (Written by gen_dsl.py.)
-/
import Derived.Test.YtmlmlmlbdjhfhaaDsi
import Derived.Test.YtmlmlmlbdjhfhaaDri
import Derived.Deep.RegionHeld3
namespace Go.Proofs.Ytmlmlmlbdjhfhaa
open Go.RowKit Go.Proofs
set_option linter.unusedVariables false

theorem step_sub9 {ρ : Operand → Value} {o : Oper} {x y : Operand} {w : World} {a b c : Int} {t u : TypeId} (ho : o.op = .binOp .sub t x y u) (hx : ρ x = .int .i64 a) (hy : ρ y = .int .i64 b) (hw : IntKind.i64.wrap (a - b) = c) : (execOp ρ o).run Try.prog w = .ok (.value (.int .i64 c)) w := by
  subst hw
  unfold execOp
  simp [ho, hx, hy, go_sem]
/-- What Few answers. -/
def RetFew9 (n : Nat) (w : World) (e : Ending) (w' : World) : Prop := ∃ β, e = .returned (.bool β) ∧ (β = true → n ≤ 100) ∧ Below w.heap.size w w'
set_option maxRecDepth 20000 in
set_option maxHeartbeats 3200000 in
theorem few9_any (v : Int) (A : Option Addr) (c : Nat) (its : List Ac) (w : World) (h : Acts w A its.length c its) : Calls Try.prog 20 #[.int .i64 v, .slice A its.length c] w (RetFew9 its.length w) := by
  obtain ⟨n, hn⟩ : ∃ n, n = its.length := ⟨_, rfl⟩
  rw [← hn] at h ⊢
  have hcap := h.cap
  have htop := h.top
  unfold maxLen at htop
  have HS := Lib.hid h
  have HN := Lib.hid hn
  clear h hn
  go_enter Try.func20, Try.ntmps20
  go_wp2_with fail
  go_loopw [5, 6] (fun v i wr => ∃ (t : Nat) (z : Int), t ≤ n ∧ t ≤ 200 ∧ i = .int .i64 (t : Int) ∧ v = .int .i64 z ∧ 4000 - 10000 * (t : Int) ≤ z ∧ z ≤ 4000 ∧ Below w.heap.size w wr) (fun _ i _ => n - (intOf i).toNat)
  case atStart => exact ⟨0, 4000, by omega, by omega, rfl, rfl, by omega, by omega, Below.refl _ _⟩
  case round =>
    obtain ⟨t, z, ht, ht2, rfl, rfl, hz1, hz2, hB⟩ := hrel
    have HB := Lib.hid hB
    clear hB
    by_cases htn : t < n
    · have hti : (t : Int) < (n : Int) := by omega
      by_cases htl : t < 200
      · have htl' : (t : Int) < 200 := by omega
        obtain ⟨a, ha⟩ : ∃ a, its[t]? = some a := ⟨_, List.getElem?_eq_getElem (by rw [← HN.out]; exact htn)⟩
        obtain ⟨ba, oa, rfl, hcell, -⟩ := (HS.out.below HB.out).cell t a ha
        have K5 := Lib.hid (show wr.drew.cell? ⟨ba, oa + t * 7 + 5, none⟩ = some (.slice a.KA a.ks.length a.kc) from hcell 5 _ rfl)
        have K6 := Lib.hid (show wr.drew.cell? ⟨ba, oa + t * 7 + 6, none⟩ = some (.slice a.BA a.b.length a.bc) from hcell 6 _ rfl)
        obtain ⟨kn, hkn⟩ : ∃ kn, kn = a.ks.length := ⟨_, rfl⟩
        obtain ⟨bn, hbn⟩ : ∃ bn, bn = a.b.length := ⟨_, rfl⟩
        rw [← hkn] at K5
        rw [← hbn] at K6
        obtain ⟨m1, hm1⟩ : ∃ m1 : Int, m1 = min (kn : Int) 5000 := ⟨_, rfl⟩
        obtain ⟨m2, hm2⟩ : ∃ m2 : Int, m2 = min (bn : Int) 5000 := ⟨_, rfl⟩
        have r1 : 0 ≤ m1 ∧ m1 ≤ 5000 := by omega
        have r2 : 0 ≤ m2 ∧ m2 ≤ 5000 := by omega
        obtain ⟨z1, hz3⟩ : ∃ z1, z1 = z - m1 := ⟨_, rfl⟩
        obtain ⟨z2, hz4⟩ : ∃ z2, z2 = z1 - m2 := ⟨_, rfl⟩
        have r3 : 4000 - 10000 * ((t + 1 : Nat) : Int) ≤ z2 ∧ z2 ≤ 4000 := by omega
        have Hm1 := Lib.hid hm1
        have Hm2 := Lib.hid hm2
        have Hz1 := Lib.hid (show IntKind.i64.wrap (z - m1) = z1 from by rw [IntKind.wrap_i64]; omega)
        have Hz2 := Lib.hid (show IntKind.i64.wrap (z1 - m2) = z2 from by rw [IntKind.wrap_i64]; omega)
        have R3 := Lib.hid r3
        have HBd := Lib.hid (Below.drew HB.out)
        clear ha hcell hkn hbn hm1 hm2 hz3 hz4 r1 r2 r3
        go_wp2_with fail
        refine wp_region_held_drew (S := fun w' => Fr (fun _ => False) wr.drew w') (by kernel_rfl) (Fr.refl _ _) (fun hHeld => ?_)
        clear hHeld
        refine wpAnyH_take (i := 0) (oi := ⟨some 17, _, _, _, _, _⟩) (v := ?va0) rfl (by kernel_rfl) (by kernel_rfl) (by kernel_rfl) (fun _ _ _ h => h) (Or.inl ⟨by rfl, ?ya0⟩) (Fr.refl _ _) ?ra0
        case ya0 =>
          intro wq hSw
          (try dsimp only at hSw)
          first | (go_simp; done) | (go_simp; with_reducible rfl)
        try simp only [Act.put, List.setIfInBounds_toArray, List.set_cons_zero, List.set_cons_succ]
        refine wpAnyH_take (i := 1) (oi := ⟨some 18, _, _, _, _, _⟩) (v := ?va1) rfl (by kernel_rfl) (by kernel_rfl) (by kernel_rfl) (fun _ _ _ h => h) (Or.inl ⟨by rfl, ?ya1⟩) (Fr.refl _ _) ?ra1
        case ya1 =>
          intro wq hSw
          (try dsimp only at hSw)
          first | (go_simp; done) | (go_simp; with_reducible rfl)
        try simp only [Act.put, List.setIfInBounds_toArray, List.set_cons_zero, List.set_cons_succ]
        refine wpAnyH_take (i := 2) (oi := ⟨some 19, _, _, _, _, _⟩) (v := ?va2) rfl (by kernel_rfl) (by kernel_rfl) (by kernel_rfl) (fun _ _ _ h => h) (Or.inl ⟨by rfl, ?ya2⟩) (Fr.refl _ _) ?ra2
        case ya2 =>
          intro wq hSw
          (try dsimp only at hSw)
          first | (go_simp; done) | (go_simp; with_reducible rfl)
        try simp only [Act.put, List.setIfInBounds_toArray, List.set_cons_zero, List.set_cons_succ]
        refine wpAnyH_take (i := 3) (oi := ⟨some 20, _, _, _, _, _⟩) (v := ?va3) rfl (by kernel_rfl) (by kernel_rfl) (by kernel_rfl) (fun _ _ _ h => h) (Or.inl ⟨by rfl, ?ya3⟩) (Fr.refl _ _) ?ra3
        case ya3 =>
          intro wq hSw
          (try dsimp only at hSw)
          first | (go_simp; done) | (go_simp; with_reducible rfl)
        try simp only [Act.put, List.setIfInBounds_toArray, List.set_cons_zero, List.set_cons_succ]
        refine wpAnyH_take (i := 4) (oi := ⟨some 21, _, _, _, _, _⟩) (v := ?va4) rfl (by kernel_rfl) (by kernel_rfl) (by kernel_rfl) (fun _ _ _ h => h) (Or.inl ⟨by rfl, ?ya4⟩) (Fr.refl _ _) ?ra4
        case ya4 =>
          intro wq hSw
          (try dsimp only at hSw)
          first | (go_simp; done) | (go_simp; with_reducible rfl)
        try simp only [Act.put, List.setIfInBounds_toArray, List.set_cons_zero, List.set_cons_succ]
        refine wpAnyH_take (i := 5) (oi := ⟨some 22, _, _, _, _, _⟩) (v := ?va5) rfl (by kernel_rfl) (by kernel_rfl) (by kernel_rfl) (fun _ _ _ h => h) (Or.inl ⟨by rfl, ?ya5⟩) (Fr.refl _ _) ?ra5
        case ya5 =>
          intro wq hSw
          (try dsimp only at hSw)
          have hq := hSw.cell_some K5.out (fun h => h)
          first | (go_simp; done) | (go_simp; with_reducible rfl)
        try simp only [Act.put, List.setIfInBounds_toArray, List.set_cons_zero, List.set_cons_succ]
        refine wpAnyH_take (i := 6) (oi := ⟨some 23, _, _, _, _, _⟩) (v := ?va6) rfl (by kernel_rfl) (by kernel_rfl) (by kernel_rfl) (fun _ _ _ h => h) (Or.inl ⟨by rfl, ?ya6⟩) (Fr.refl _ _) ?ra6
        case ya6 =>
          intro wq hSw
          (try dsimp only at hSw)
          first | (go_simp; done) | (go_simp; with_reducible rfl)
        try simp only [Act.put, List.setIfInBounds_toArray, List.set_cons_zero, List.set_cons_succ]
        refine wpAnyH_take (i := 7) (oi := ⟨some 24, _, _, _, _, _⟩) (v := (.int .i64 m1)) rfl (by kernel_rfl) (by kernel_rfl) (by kernel_rfl) (fun _ _ _ h => h) (Or.inl ⟨by rfl, ?ya7⟩) (Fr.refl _ _) ?ra7
        case ya7 =>
          intro wq hSw
          rw [Hm1.out]; exact step_min9 (x := .tmp 23) (y := .const (.int .i64 5000)) rfl rfl rfl
        try simp only [Act.put, List.setIfInBounds_toArray, List.set_cons_zero, List.set_cons_succ]
        refine wpAnyH_take (i := 8) (oi := ⟨some 25, _, _, _, _, _⟩) (v := (.int .i64 z1)) rfl (by kernel_rfl) (by kernel_rfl) (by kernel_rfl) (fun _ _ _ h => h) (Or.inl ⟨by rfl, ?ya8⟩) (Fr.refl _ _) ?ra8
        case ya8 =>
          intro wq hSw
          exact step_sub9 (x := .tmp 17) (y := .tmp 24) rfl rfl rfl Hz1.out
        try simp only [Act.put, List.setIfInBounds_toArray, List.set_cons_zero, List.set_cons_succ]
        refine wpAnyH_take (i := 9) (oi := ⟨some 26, _, _, _, _, _⟩) (v := ?va9) rfl (by kernel_rfl) (by kernel_rfl) (by kernel_rfl) (fun _ _ _ h => h) (Or.inl ⟨by rfl, ?ya9⟩) (Fr.refl _ _) ?ra9
        case ya9 =>
          intro wq hSw
          (try dsimp only at hSw)
          first | (go_simp; done) | (go_simp; with_reducible rfl)
        try simp only [Act.put, List.setIfInBounds_toArray, List.set_cons_zero, List.set_cons_succ]
        refine wpAnyH_take (i := 10) (oi := ⟨some 27, _, _, _, _, _⟩) (v := ?va10) rfl (by kernel_rfl) (by kernel_rfl) (by kernel_rfl) (fun _ _ _ h => h) (Or.inl ⟨by rfl, ?ya10⟩) (Fr.refl _ _) ?ra10
        case ya10 =>
          intro wq hSw
          (try dsimp only at hSw)
          first | (go_simp; done) | (go_simp; with_reducible rfl)
        try simp only [Act.put, List.setIfInBounds_toArray, List.set_cons_zero, List.set_cons_succ]
        refine wpAnyH_take (i := 11) (oi := ⟨some 28, _, _, _, _, _⟩) (v := ?va11) rfl (by kernel_rfl) (by kernel_rfl) (by kernel_rfl) (fun _ _ _ h => h) (Or.inl ⟨by rfl, ?ya11⟩) (Fr.refl _ _) ?ra11
        case ya11 =>
          intro wq hSw
          (try dsimp only at hSw)
          first | (go_simp; done) | (go_simp; with_reducible rfl)
        try simp only [Act.put, List.setIfInBounds_toArray, List.set_cons_zero, List.set_cons_succ]
        refine wpAnyH_take (i := 12) (oi := ⟨some 29, _, _, _, _, _⟩) (v := ?va12) rfl (by kernel_rfl) (by kernel_rfl) (by kernel_rfl) (fun _ _ _ h => h) (Or.inl ⟨by rfl, ?ya12⟩) (Fr.refl _ _) ?ra12
        case ya12 =>
          intro wq hSw
          (try dsimp only at hSw)
          first | (go_simp; done) | (go_simp; with_reducible rfl)
        try simp only [Act.put, List.setIfInBounds_toArray, List.set_cons_zero, List.set_cons_succ]
        refine wpAnyH_take (i := 13) (oi := ⟨some 30, _, _, _, _, _⟩) (v := ?va13) rfl (by kernel_rfl) (by kernel_rfl) (by kernel_rfl) (fun _ _ _ h => h) (Or.inl ⟨by rfl, ?ya13⟩) (Fr.refl _ _) ?ra13
        case ya13 =>
          intro wq hSw
          (try dsimp only at hSw)
          have hq := hSw.cell_some K6.out (fun h => h)
          first | (go_simp; done) | (go_simp; with_reducible rfl)
        try simp only [Act.put, List.setIfInBounds_toArray, List.set_cons_zero, List.set_cons_succ]
        refine wpAnyH_take (i := 14) (oi := ⟨some 31, _, _, _, _, _⟩) (v := ?va14) rfl (by kernel_rfl) (by kernel_rfl) (by kernel_rfl) (fun _ _ _ h => h) (Or.inl ⟨by rfl, ?ya14⟩) (Fr.refl _ _) ?ra14
        case ya14 =>
          intro wq hSw
          (try dsimp only at hSw)
          first | (go_simp; done) | (go_simp; with_reducible rfl)
        try simp only [Act.put, List.setIfInBounds_toArray, List.set_cons_zero, List.set_cons_succ]
        refine wpAnyH_take (i := 15) (oi := ⟨some 32, _, _, _, _, _⟩) (v := (.int .i64 m2)) rfl (by kernel_rfl) (by kernel_rfl) (by kernel_rfl) (fun _ _ _ h => h) (Or.inl ⟨by rfl, ?ya15⟩) (Fr.refl _ _) ?ra15
        case ya15 =>
          intro wq hSw
          rw [Hm2.out]; exact step_min9 (x := .tmp 31) (y := .const (.int .i64 5000)) rfl rfl rfl
        try simp only [Act.put, List.setIfInBounds_toArray, List.set_cons_zero, List.set_cons_succ]
        refine wpAnyH_take (i := 16) (oi := ⟨some 33, _, _, _, _, _⟩) (v := (.int .i64 z2)) rfl (by kernel_rfl) (by kernel_rfl) (by kernel_rfl) (fun _ _ _ h => h) (Or.inl ⟨by rfl, ?ya16⟩) (Fr.refl _ _) ?ra16
        case ya16 =>
          intro wq hSw
          exact step_sub9 (x := .tmp 25) (y := .tmp 32) rfl rfl rfl Hz2.out
        try simp only [Act.put, List.setIfInBounds_toArray, List.set_cons_zero, List.set_cons_succ]
        refine wpAnyH_take (i := 17) (oi := ⟨some 5, _, _, _, _, _⟩) (v := ?va17) rfl (by kernel_rfl) (by kernel_rfl) (by kernel_rfl) (fun _ _ _ h => h) (Or.inl ⟨by rfl, ?ya17⟩) (Fr.refl _ _) ?ra17
        case ya17 =>
          intro wq hSw
          (try dsimp only at hSw)
          first | (go_simp; done) | (go_simp; with_reducible rfl)
        try simp only [Act.put, List.setIfInBounds_toArray, List.set_cons_zero, List.set_cons_succ]
        refine wpAnyH_done (by kernel_rfl) ?_ _
        go_wp2_with fail
        go_roundw
        case rel => exact ⟨t + 1, z2, by omega, by omega, by go_num, rfl, R3.out.1, R3.out.2, HBd.out⟩
        case measure => simp [intOf]; omega
      · have htl' : ¬ (t : Int) < 200 := by omega
        have h100 : ¬ (n : Int) ≤ 100 := by omega
        go_wp2_with fail
        go_ret
        exact ⟨_, rfl, (fun h => by cases h), HB.out⟩
    · have hti : ¬ (t : Int) < (n : Int) := by omega
      by_cases h100 : (n : Int) ≤ 100
      · go_wp2_with fail
        go_ret
        exact ⟨_, rfl, (fun _ => by omega), HB.out⟩
      · go_wp2_with fail
        go_ret
        exact ⟨_, rfl, (fun h => by cases h), HB.out⟩
end Go.Proofs.Ytmlmlmlbdjhfhaa
