/-
  ArrayPlays over DrvK: it returns true, whatever its arguments. (Written by gen_dtu.py.)
-/
import Derived.Test.YtjjoeaneaibklaaDts
import Derived.Test.YtjjoeaneaibklaaDtt
import Derived.Deep.MidRow
import Derived.Deep.DeepCutAuto
namespace Go.Proofs.Ytjjoeaneaibklaa
open Go.RowKit Go.Proofs
set_option linter.unusedVariables false

theorem step_loadA10 {ρ : Operand → Value} {o : Oper} {x : Operand} {w : World} {b off : Nat} {a : Bc} (ho : o.op = .load 33 x) (hx : ρ x = .pointer (some ⟨b, off, none⟩)) (h : w.rangeAt b off a.vals) : (execOp ρ o).run Try.prog w = .ok (.value (.agg a.vals.toArray)) w := by
  unfold execOp
  simp only [ho, hx, Instr.loadAt, Instr.sureAddr, Sem.run_bind, Sem.run_pure, Result.andThen_ok, run_loadVar_mid w b off 33 _ _ h Try.underlying33 rfl (sizeA10l a)]
section
variable {Rep : World → (Nat → Prop) → Nat → Dv → Prop} {w0 w w' : World} {S : Nat → Prop} {A X k : Nat} {xa xr : List Dv}
theorem Pa.copy (DK : DrvK Rep) (h : Pa Rep w0 w S A X k xa xr) (hk : k ≤ 90000) : Calls Try.prog 10 #[.pointer (some ⟨A, 0, none⟩)] w fun e w' => ∃ A' S', e = .returned (.pointer (some ⟨A', 0, none⟩)) ∧ Pa Rep w0 w' S' A' X k xa xr ∧ Below w.heap.size w w' := by
  obtain ⟨Sa, Sb, ha, hr, hdj, hS⟩ := h.ex
  have hla := h.la
  refine (arcopy_any DK ha (wl_up h.wl (by omega)) (by omega)).mono ?_
  rintro e w' ⟨A', S', rfl, ha', hb, hlo⟩
  refine ⟨A', fun b => S' b ∨ Sb b, rfl, ⟨⟨S', Sb, ha', Arr.later (layX k) hr hb, fun b hb1 hb2 => ?_, fun _ => Iff.rfl⟩, fun b hb' => ?_, h.bel.trans (hb.mono h.bel.size), h.wl, h.la, h.lx⟩, hb⟩
  · have := hlo b hb1
    have := Arr.old hr hb2
    omega
  · rcases hb' with q | q
    · have := hlo b q; have := h.bel.size; omega
    · exact h.lo b ((hS b).2 (.inr q))
theorem pa_new {w1 w2 : World} {Sa Sb : Nat → Prop} {xs : List Dv} (DK : DrvK Rep) (hb0 : Below w0.heap.size w0 w) (ha : AP Rep w1 Sa A xs) (hb1 : Below w.heap.size w w1) (hla : ∀ b, Sa b → w.heap.size ≤ b) (hr : RX 0 w2 Sb X xs) (hb2 : Below w1.heap.size w1 w2) (hlb : ∀ b, Sb b → w1.heap.size ≤ b) (hw : Wl 0 xs) (hl : 0 < xs.length ∧ xs.length ≤ 12) :
    ∃ S, Pa Rep w0 w2 S A X 0 xs xs := by
  have hs0 := hb0.size
  have hs1 := hb1.size
  refine ⟨fun b => Sa b ∨ Sb b, ⟨Sa, Sb, Arr.later DK.lay ha hb2, hr, fun b q1 q2 => ?_, fun _ => Iff.rfl⟩, fun b hb' => ?_, (hb0.trans (hb1.mono hs0)).trans (hb2.mono (by omega)), hw, hl, hl⟩
  · have := Arr.old ha q1
    have := hlb b q2
    omega
  · rcases hb' with q | q
    · have := hla b q; omega
    · have := hlb b q; omega
theorem sz_new (M N : Nat) : Sz M N (List.replicate N (Dv.new M)) := ⟨List.length_replicate .., fun i x h => by
  rw [List.getElem?_replicate] at h
  split at h
  · injection h with h
    rw [← h]
    exact Dv.new_n M
  · cases h⟩
set_option maxRecDepth 100000
set_option maxHeartbeats 12800000
theorem arrayPlays_any (DK : DrvK Rep) (n m : Int) (A0 : Option Addr) (c0 : Nat) (its : List Bc) (w : World) (bn : -9223372036854775808 ≤ n ∧ n < 9223372036854775808) (bm : -9223372036854775808 ≤ m ∧ m < 9223372036854775808) (hp : Bcs w A0 its.length c0 its) :
    Calls Try.prog 3 #[.int .i64 n, .int .i64 m, .slice A0 its.length c0] w (SaysTrue w) := by
  have hfw := few10_any 0 A0 c0 its w hp
  obtain ⟨nl, hnl⟩ : ∃ nl, nl = its.length := ⟨_, rfl⟩
  rw [← hnl] at hp hfw ⊢
  have HP := Lib.hid hp
  have HNL := Lib.hid hnl
  clear hp hnl
  by_cases gn : 12 < n ∧ n ≤ 255
  · obtain ⟨u1, u2⟩ := gn
    go_enter Try.func3, Try.ntmps3
    go_wp2_with fail
    refine hfw.mono ?_; clear hfw; rintro e wa ⟨β, rfl, hβ, hb0⟩
    have B0 := Lib.hid hb0
    clear hb0 hβ
    cases β
    · go_wp2_with fail
      refine (stands10_any DK _).mono ?_; rintro e w2 ⟨rfl, hb⟩
      have B2 := Lib.hid (B0.out.trans (hb.mono B0.out.size))
      clear hb
      go_wp2_with fail
      go_ret
      exact ⟨rfl, B2.out⟩
    · go_wp2_with fail
      refine (stands10_any DK _).mono ?_; rintro e w2 ⟨rfl, hb⟩
      have B2 := Lib.hid (B0.out.trans (hb.mono B0.out.size))
      clear hb
      go_wp2_with fail
      go_ret
      exact ⟨rfl, B2.out⟩
  by_cases gm : 20 < m ∧ m ≤ 600
  · obtain ⟨u1, u2⟩ := gm
    by_cases v1 : 12 < n
    · have v2 : ¬ n ≤ 255 := by omega
      clear gn
      go_enter Try.func3, Try.ntmps3
      go_wp2_with fail
      refine hfw.mono ?_; clear hfw; rintro e wa ⟨β, rfl, hβ, hb0⟩
      have B0 := Lib.hid hb0
      clear hb0 hβ
      cases β
      · go_wp2_with fail
        refine (stands10_any DK _).mono ?_; rintro e w2 ⟨rfl, hb⟩
        have B2 := Lib.hid (B0.out.trans (hb.mono B0.out.size))
        clear hb
        go_wp2_with fail
        go_ret
        exact ⟨rfl, B2.out⟩
      · go_wp2_with fail
        refine (stands10_any DK _).mono ?_; rintro e w2 ⟨rfl, hb⟩
        have B2 := Lib.hid (B0.out.trans (hb.mono B0.out.size))
        clear hb
        go_wp2_with fail
        go_ret
        exact ⟨rfl, B2.out⟩
    · clear gn
      go_enter Try.func3, Try.ntmps3
      go_wp2_with fail
      refine hfw.mono ?_; clear hfw; rintro e wa ⟨β, rfl, hβ, hb0⟩
      have B0 := Lib.hid hb0
      clear hb0 hβ
      cases β
      · go_wp2_with fail
        refine (stands10_any DK _).mono ?_; rintro e w2 ⟨rfl, hb⟩
        have B2 := Lib.hid (B0.out.trans (hb.mono B0.out.size))
        clear hb
        go_wp2_with fail
        go_ret
        exact ⟨rfl, B2.out⟩
      · go_wp2_with fail
        refine (stands10_any DK _).mono ?_; rintro e w2 ⟨rfl, hb⟩
        have B2 := Lib.hid (B0.out.trans (hb.mono B0.out.size))
        clear hb
        go_wp2_with fail
        go_ret
        exact ⟨rfl, B2.out⟩
  by_cases gy : 1 ≤ n ∧ n ≤ 255 ∧ 1 ≤ m ∧ m ≤ 600
  · obtain ⟨N, rfl⟩ : ∃ N : Nat, n = (N : Int) := ⟨n.toNat, by omega⟩
    obtain ⟨M, rfl⟩ : ∃ M : Nat, m = (M : Int) := ⟨m.toNat, by omega⟩
    have hN1 : 1 ≤ N ∧ N ≤ 12 := by omega
    have hM1 : 1 ≤ M ∧ M ≤ 20 := by omega
    have e1 : ¬ (12 : Int) < (N : Int) := by omega
    have e2 : ¬ (20 : Int) < (M : Int) := by omega
    clear gn gm gy
    go_enter Try.func3, Try.ntmps3
    go_wp2_with fail
    refine hfw.mono ?_; clear hfw; rintro e wa ⟨β, rfl, hβ, hb0⟩
    have B0 := Lib.hid hb0
    clear hb0
    cases β
    · clear hβ
      go_wp2_with fail
      refine (stands10_any DK _).mono ?_; rintro e w2 ⟨rfl, hb⟩
      have B2 := Lib.hid (B0.out.trans (hb.mono B0.out.size))
      clear hb
      go_wp2_with fail
      go_ret
      exact ⟨rfl, B2.out⟩
    have hnl80 : nl ≤ 80 := hβ rfl
    clear hβ
    go_wp2_with fail
    refine (arnew_yes DK N M wa (by omega) (by omega) (by omega) (by omega)).mono ?_; rintro e w1 ⟨A, S1, rfl, ha1, hb1, hS1⟩
    have HA1 := Lib.hid ha1
    have HB1 := Lib.hid hb1
    have HS1 := Lib.hid hS1
    clear ha1 hb1 hS1
    go_wp2_with fail
    refine (rxnew_yes N M w1 (by omega) (by omega) (by omega) (by omega)).mono ?_; rintro e w2 ⟨X, S2, rfl, hx2, hb2, hS2⟩
    obtain ⟨S, hpa⟩ := pa_new DK B0.out HA1.out HB1.out HS1.out hx2 hb2 hS2 (fun i x h => by
      rw [List.getElem?_replicate] at h
      split at h
      · injection h with h
        rw [← h]; exact Nat.le_refl _
      · cases h) (by rw [List.length_replicate]; omega)
    have P0 := Lib.hid hpa
    clear hpa hx2 hb2 hS2
    go_wp2_with fail
    go_loopw [7, 9] (fun v i wr => ∃ (t : Nat) (A : Nat) (xs : List Dv) (S : Nat → Prop), t ≤ nl ∧ i = .int .i64 (t : Int) ∧ v = .pointer (some ⟨A, 0, none⟩) ∧ Pa Rep w wr S A X (25 * t) xs xs ∧ Sz M N xs) (fun _ i _ => nl - (intOf i).toNat)
    case atStart => exact ⟨0, A, _, S, by omega, rfl, rfl, P0.out, sz_new M N⟩
    case round =>
      obtain ⟨t, A, xs, S, ht, rfl, rfl, hpa, hsz⟩ := hrel
      have PR := Lib.hid hpa
      have SZ := Lib.hid hsz
      clear hpa hsz P0
      by_cases htl : t < nl
      · have hti : (t : Int) < (nl : Int) := by omega
        obtain ⟨a, ha⟩ : ∃ a, its[t]? = some a := ⟨_, List.getElem?_eq_getElem (by have := HNL.out; omega)⟩
        obtain ⟨ba, oa, rfl, hcell, hok⟩ := HP.out.cell t a ha
        have OK := Lib.hid hok
        have hba : ba < w.heap.size := World.block_lt_of_cell? w _ (hcell 0 _ rfl)
        have hF0 : Fr (fun _ => False) w wr := Fr.of_below PR.out.bel
        have kk := hF0.cell_some (hcell 0 _ rfl) (fun h => h)
        rw [Nat.add_zero] at kk
        have K1 := Lib.hid (hF0.cell_some (hcell 1 _ rfl) (fun h => h))
        have K2 := Lib.hid (hF0.cell_some (hcell 2 _ rfl) (fun h => h))
        have KR := Lib.hid (show wr.rangeAt ba (oa + t * 7) a.vals from fun j v hv => hF0.cell_some (hcell j v hv) (fun h => h))
        have HBA := Lib.hid hba
        have hwz := PR.out.bel.size
        clear hcell hok ha hba hF0
        by_cases k8 : a.kind = 8
        · go_wp2_with fail
          clear kk
          refine (PR.out.copy DK (by omega)).mono ?_; rintro e w1 ⟨A1, S1, rfl, hp, hb⟩
          have P1 := Lib.hid (hp.later DK (Below.drew (Below.refl _ _)))
          have hF1 : Fr (fun _ => False) wr w1.drew := Fr.of_below (Below.drew hb)
          have K1 := Lib.hid (hF1.cell_some K1.out (fun h => h))
          have K2 := Lib.hid (hF1.cell_some K2.out (fun h => h))
          have KR := Lib.hid (show w1.drew.rangeAt ba (oa + t * 7) a.vals from fun j v hv => hF1.cell_some (KR.out j v hv) (fun h => h))
          have NB := Lib.hid (show ¬ (S1 ba ∨ w1.heap.size ≤ ba) from by
            have := HBA.out
            have := hb.size
            rintro (q | q)
            · have := hp.lo ba q; omega
            · omega)
          clear hp hb hF1
          go_wp2_with fail
          refine wp_region_held_drew (S := fun w' => Fr (fun b => S1 b ∨ w1.heap.size ≤ b) w1.drew w') (by kernel_rfl) (Fr.refl _ _) (fun hHeld => ?_)
          clear hHeld
          refine wpAnyH_take (i := 0) (oi := ⟨some 61, _, _, _, _, _⟩) (v := ?vp0) rfl (by kernel_rfl) (by kernel_rfl) (by kernel_rfl) (fun _ _ _ h => h) (Or.inl ⟨by rfl, ?yp0⟩) (Fr.refl _ _) ?rp0
          case yp0 =>
            intro wq hSw
            (try dsimp only at hSw)
            first | (go_simp; done) | (go_simp; with_reducible rfl)
          try simp only [Act.put, List.setIfInBounds_toArray, List.set_cons_zero, List.set_cons_succ]
          refine wpAnyH_take (i := 1) (oi := ⟨some 62, _, _, _, _, _⟩) (v := ?vp1) rfl (by kernel_rfl) (by kernel_rfl) (by kernel_rfl) (fun _ _ _ h => h) (Or.inl ⟨by rfl, ?yp1⟩) (Fr.refl _ _) ?rp1
          case yp1 =>
            intro wq hSw
            (try dsimp only at hSw)
            first | (go_simp; done) | (go_simp; with_reducible rfl)
          try simp only [Act.put, List.setIfInBounds_toArray, List.set_cons_zero, List.set_cons_succ]
          refine wpAnyH_take (i := 2) (oi := ⟨some 63, _, _, _, _, _⟩) (v := ?vp2) rfl (by kernel_rfl) (by kernel_rfl) (by kernel_rfl) (fun _ _ _ h => h) (Or.inl ⟨by rfl, ?yp2⟩) (Fr.refl _ _) ?rp2
          case yp2 =>
            intro wq hSw
            (try dsimp only at hSw)
            first | (go_simp; done) | (go_simp; with_reducible rfl)
          try simp only [Act.put, List.setIfInBounds_toArray, List.set_cons_zero, List.set_cons_succ]
          refine wpAnyH_take (i := 3) (oi := ⟨some 64, _, _, _, _, _⟩) (v := ?vp3) rfl (by kernel_rfl) (by kernel_rfl) (by kernel_rfl) (fun _ _ _ h => h) (Or.inl ⟨by rfl, ?yp3⟩) (Fr.refl _ _) ?rp3
          case yp3 =>
            intro wq hSw
            (try dsimp only at hSw)
            first | (go_simp; done) | (go_simp; with_reducible rfl)
          try simp only [Act.put, List.setIfInBounds_toArray, List.set_cons_zero, List.set_cons_succ]
          refine wpAnyH_take (i := 4) (oi := ⟨some 65, _, _, _, _, _⟩) (v := ?vp4) rfl (by kernel_rfl) (by kernel_rfl) (by kernel_rfl) (fun _ _ _ h => h) (Or.inl ⟨by rfl, ?yp4⟩) (Fr.refl _ _) ?rp4
          case yp4 =>
            intro wq hSw
            (try dsimp only at hSw)
            first | (go_simp; done) | (go_simp; with_reducible rfl)
          try simp only [Act.put, List.setIfInBounds_toArray, List.set_cons_zero, List.set_cons_succ]
          refine wpAnyH_take (i := 5) (oi := ⟨some 66, _, _, _, _, _⟩) (v := (.agg a.vals.toArray)) rfl (by kernel_rfl) (by kernel_rfl) (by kernel_rfl) (fun _ _ _ h => h) (Or.inl ⟨by rfl, ?yp5⟩) (Fr.refl _ _) ?rp5
          case yp5 =>
            intro wq hSw
            exact step_loadA10 (x := .tmp 65) (b := ba) (off := oa + t * 7) rfl rfl (fun q v hv => hSw.cell_some (KR.out q v hv) NB.out)
          try simp only [Act.put, List.setIfInBounds_toArray, List.set_cons_zero, List.set_cons_succ]
          refine wpAnyH_ready (rs := [6]) (by kernel_rfl) (by simp) ?_
          refine AllReadyH.cons (o := ⟨some 67, _, _, _, _, _⟩) rfl (fun K hK => ?_) AllReadyH.nil
          go_simp
          refine (act10_any DK P1.out SZ.out (by omega) a OK.out).mono ?_; rintro e w5 ⟨y, S5, rfl, hp, hsz, hn⟩
          have P5 := Lib.hid hp
          have SZ5 := Lib.hid hsz
          have hfr : Fr (fun b => S1 b ∨ w1.heap.size ≤ b) w1.drew w5 := hn.1.mono (fun b hb => .inl hb)
          have HF := Lib.hid hfr
          clear hp hsz hn
          go_wp2_with fail
          refine hK.out _ _ hfr (fun hHeld => ?_)
          clear hK K hHeld
          try simp only [Act.put, List.setIfInBounds_toArray, List.set_cons_zero, List.set_cons_succ]
          refine wpAnyH_re (S' := fun w' => Fr (fun b => S1 b ∨ w1.heap.size ≤ b) w5 w') (fun w' h => hfr.trans h) ?_
          clear hfr
          refine wpAnyH_take (i := 7) (oi := ⟨some 68, _, _, _, _, _⟩) (v := ?vp7) rfl (by kernel_rfl) (by kernel_rfl) (by kernel_rfl) (fun _ _ _ h => h) (Or.inl ⟨by rfl, ?yp7⟩) (Fr.refl _ _) ?rp7
          case yp7 =>
            intro wq hSw
            (try dsimp only at hSw)
            first | (go_simp; done) | (go_simp; with_reducible rfl)
          try simp only [Act.put, List.setIfInBounds_toArray, List.set_cons_zero, List.set_cons_succ]
          refine wpAnyH_take (i := 8) (oi := ⟨some 69, _, _, _, _, _⟩) (v := ?vp8) rfl (by kernel_rfl) (by kernel_rfl) (by kernel_rfl) (fun _ _ _ h => h) (Or.inl ⟨by rfl, ?yp8⟩) (Fr.refl _ _) ?rp8
          case yp8 =>
            intro wq hSw
            (try dsimp only at hSw)
            first | (go_simp; done) | (go_simp; with_reducible rfl)
          try simp only [Act.put, List.setIfInBounds_toArray, List.set_cons_zero, List.set_cons_succ]
          refine wpAnyH_take (i := 9) (oi := ⟨some 70, _, _, _, _, _⟩) (v := ?vp9) rfl (by kernel_rfl) (by kernel_rfl) (by kernel_rfl) (fun _ _ _ h => h) (Or.inl ⟨by rfl, ?yp9⟩) (Fr.refl _ _) ?rp9
          case yp9 =>
            intro wq hSw
            (try dsimp only at hSw)
            first | (go_simp; done) | (go_simp; with_reducible rfl)
          try simp only [Act.put, List.setIfInBounds_toArray, List.set_cons_zero, List.set_cons_succ]
          refine wpAnyH_take (i := 11) (oi := ⟨some 72, _, _, _, _, _⟩) (v := ?vp11) rfl (by kernel_rfl) (by kernel_rfl) (by kernel_rfl) (fun _ _ _ h => h) (Or.inl ⟨by rfl, ?yp11⟩) (Fr.refl _ _) ?rp11
          case yp11 =>
            intro wq hSw
            (try dsimp only at hSw)
            first | (go_simp; done) | (go_simp; with_reducible rfl)
          try simp only [Act.put, List.setIfInBounds_toArray, List.set_cons_zero, List.set_cons_succ]
          refine wpAnyH_ready (rs := [10]) (by kernel_rfl) (by simp) ?_
          refine AllReadyH.cons (o := ⟨some 71, _, _, _, _, _⟩) rfl (fun K hK => ?_) AllReadyH.nil
          go_simp
          obtain ⟨Sa5, Sb5, ha5, -, -, -⟩ := P5.out.ex
          have hh := aralive_any DK ha5 (by have := P5.out.la; omega)
          obtain ⟨al, hal⟩ : ∃ al, al = aliveN y y.length := ⟨_, rfl⟩
          rw [← hal] at hh
          have AL := Lib.hid hal
          refine hh.mono ?_; clear hh; rintro e w6 ⟨rfl, hb⟩
          have P6 := Lib.hid (P5.out.later DK hb)
          have hfr : Fr (fun b => S1 b ∨ w1.heap.size ≤ b) w5 w6 := Fr.of_below hb
          have HF := Lib.hid (HF.out.trans hfr)
          clear hb hal ha5
          go_wp2_with fail
          refine hK.out _ _ hfr (fun hHeld => ?_)
          clear hK K hHeld
          try simp only [Act.put, List.setIfInBounds_toArray, List.set_cons_zero, List.set_cons_succ]
          refine wpAnyH_re (S' := fun w' => Fr (fun b => S1 b ∨ w1.heap.size ≤ b) w6 w') (fun w' h => hfr.trans h) ?_
          clear hfr
          refine wpAnyH_ready (rs := [12]) (by kernel_rfl) (by simp) ?_
          refine AllReadyH.cons (o := ⟨some 73, _, _, _, _, _⟩) rfl (fun K hK => ?_) AllReadyH.nil
          go_simp
          obtain ⟨Sa6, Sb6, -, hx6, -, -⟩ := P6.out.ex
          have hh := rxalive_any hx6 P6.out.lx.1 (by have := P6.out.lx; omega)
          rw [← AL.out] at hh
          refine hh.mono ?_; clear hh; rintro e w7 ⟨rfl, hb⟩
          have P7 := Lib.hid (P6.out.later DK hb)
          have hfr : Fr (fun b => S1 b ∨ w1.heap.size ≤ b) w6 w7 := Fr.of_below hb
          have HF := Lib.hid (HF.out.trans hfr)
          clear hb hx6
          go_wp2_with fail
          refine hK.out _ _ hfr (fun hHeld => ?_)
          clear hK K hHeld
          try simp only [Act.put, List.setIfInBounds_toArray, List.set_cons_zero, List.set_cons_succ]
          refine wpAnyH_re (S' := fun w' => Fr (fun b => S1 b ∨ w1.heap.size ≤ b) w7 w') (fun w' h => hfr.trans h) ?_
          clear hfr
          refine wpAnyH_take (i := 13) (oi := ⟨some 74, _, _, _, _, _⟩) (v := ?vp13) rfl (by kernel_rfl) (by kernel_rfl) (by kernel_rfl) (fun _ _ _ h => h) (Or.inl ⟨by rfl, ?yp13⟩) (Fr.refl _ _) ?rp13
          case yp13 =>
            intro wq hSw
            (try dsimp only at hSw)
            first | (go_simp; done) | (go_simp; with_reducible rfl)
          try simp only [Act.put, List.setIfInBounds_toArray, List.set_cons_zero, List.set_cons_succ]
          refine wpAnyH_take (i := 14) (oi := ⟨some 75, _, _, _, _, _⟩) (v := ?vp14) rfl (by kernel_rfl) (by kernel_rfl) (by kernel_rfl) (fun _ _ _ h => h) (Or.inl ⟨by rfl, ?yp14⟩) (Fr.refl _ _) ?rp14
          case yp14 =>
            intro wq hSw
            (try dsimp only at hSw)
            first | (go_simp; done) | (go_simp; with_reducible rfl)
          try simp only [Act.put, List.setIfInBounds_toArray, List.set_cons_zero, List.set_cons_succ]
          refine wpAnyH_take (i := 15) (oi := ⟨some 76, _, _, _, _, _⟩) (v := ?vp15) rfl (by kernel_rfl) (by kernel_rfl) (by kernel_rfl) (fun _ _ _ h => h) (Or.inl ⟨by rfl, ?yp15⟩) (Fr.refl _ _) ?rp15
          case yp15 =>
            intro wq hSw
            (try dsimp only at hSw)
            first | (go_simp; done) | (go_simp; with_reducible rfl)
          try simp only [Act.put, List.setIfInBounds_toArray, List.set_cons_zero, List.set_cons_succ]
          refine wpAnyH_take (i := 16) (oi := ⟨some 77, _, _, _, _, _⟩) (v := ?vp16) rfl (by kernel_rfl) (by kernel_rfl) (by kernel_rfl) (fun _ _ _ h => h) (Or.inl ⟨by rfl, ?yp16⟩) (Fr.refl _ _) ?rp16
          case yp16 =>
            intro wq hSw
            (try dsimp only at hSw)
            first | (go_simp; done) | (go_simp; with_reducible rfl)
          try simp only [Act.put, List.setIfInBounds_toArray, List.set_cons_zero, List.set_cons_succ]
          refine wpAnyH_take (i := 17) (oi := ⟨some 78, _, _, _, _, _⟩) (v := ?vp17) rfl (by kernel_rfl) (by kernel_rfl) (by kernel_rfl) (fun _ _ _ h => h) (Or.inl ⟨by rfl, ?yp17⟩) (Fr.refl _ _) ?rp17
          case yp17 =>
            intro wq hSw
            (try dsimp only at hSw)
            first | (go_simp; done) | (go_simp; with_reducible rfl)
          try simp only [Act.put, List.setIfInBounds_toArray, List.set_cons_zero, List.set_cons_succ]
          refine wpAnyH_take (i := 18) (oi := ⟨some 79, _, _, _, _, _⟩) (v := ?vp18) rfl (by kernel_rfl) (by kernel_rfl) (by kernel_rfl) (fun _ _ _ h => h) (Or.inl ⟨by rfl, ?yp18⟩) (Fr.refl _ _) ?rp18
          case yp18 =>
            intro wq hSw
            (try dsimp only at hSw)
            first | (go_simp; done) | (go_simp; with_reducible rfl)
          try simp only [Act.put, List.setIfInBounds_toArray, List.set_cons_zero, List.set_cons_succ]
          refine wpAnyH_take (i := 19) (oi := ⟨some 80, _, _, _, _, _⟩) (v := ?vp19) rfl (by kernel_rfl) (by kernel_rfl) (by kernel_rfl) (fun _ _ _ h => h) (Or.inl ⟨by rfl, ?yp19⟩) (Fr.refl _ _) ?rp19
          case yp19 =>
            intro wq hSw
            (try dsimp only at hSw)
            first | (go_simp; done) | (go_simp; with_reducible rfl)
          try simp only [Act.put, List.setIfInBounds_toArray, List.set_cons_zero, List.set_cons_succ]
          refine wpAnyH_take (i := 20) (oi := ⟨some 81, _, _, _, _, _⟩) (v := ?vp20) rfl (by kernel_rfl) (by kernel_rfl) (by kernel_rfl) (fun _ _ _ h => h) (Or.inl ⟨by rfl, ?yp20⟩) (Fr.refl _ _) ?rp20
          case yp20 =>
            intro wq hSw
            (try dsimp only at hSw)
            first | (go_simp; done) | (go_simp; with_reducible rfl)
          try simp only [Act.put, List.setIfInBounds_toArray, List.set_cons_zero, List.set_cons_succ]
          refine wpAnyH_take (i := 21) (oi := ⟨some 82, _, _, _, _, _⟩) (v := ?vp21) rfl (by kernel_rfl) (by kernel_rfl) (by kernel_rfl) (fun _ _ _ h => h) (Or.inl ⟨by rfl, ?yp21⟩) (Fr.refl _ _) ?rp21
          case yp21 =>
            intro wq hSw
            (try dsimp only at hSw)
            first | (go_simp; done) | (go_simp; with_reducible rfl)
          try simp only [Act.put, List.setIfInBounds_toArray, List.set_cons_zero, List.set_cons_succ]
          refine wpAnyH_take (i := 22) (oi := ⟨some 83, _, _, _, _, _⟩) (v := ?vp22) rfl (by kernel_rfl) (by kernel_rfl) (by kernel_rfl) (fun _ _ _ h => h) (Or.inl ⟨by rfl, ?yp22⟩) (Fr.refl _ _) ?rp22
          case yp22 =>
            intro wq hSw
            (try dsimp only at hSw)
            have hq := (HF.out.trans hSw).cell_some K1.out NB.out
            first | (go_simp; done) | (go_simp; with_reducible rfl)
          try simp only [Act.put, List.setIfInBounds_toArray, List.set_cons_zero, List.set_cons_succ]
          refine wpAnyH_take (i := 23) (oi := ⟨some 84, _, _, _, _, _⟩) (v := ?vp23) rfl (by kernel_rfl) (by kernel_rfl) (by kernel_rfl) (fun _ _ _ h => h) (Or.inl ⟨by rfl, ?yp23⟩) (Fr.refl _ _) ?rp23
          case yp23 =>
            intro wq hSw
            (try dsimp only at hSw)
            first | (go_simp; done) | (go_simp; with_reducible rfl)
          try simp only [Act.put, List.setIfInBounds_toArray, List.set_cons_zero, List.set_cons_succ]
          refine wpAnyH_take (i := 24) (oi := ⟨some 85, _, _, _, _, _⟩) (v := ?vp24) rfl (by kernel_rfl) (by kernel_rfl) (by kernel_rfl) (fun _ _ _ h => h) (Or.inl ⟨by rfl, ?yp24⟩) (Fr.refl _ _) ?rp24
          case yp24 =>
            intro wq hSw
            (try dsimp only at hSw)
            first | (go_simp; done) | (go_simp; with_reducible rfl)
          try simp only [Act.put, List.setIfInBounds_toArray, List.set_cons_zero, List.set_cons_succ]
          refine wpAnyH_take (i := 25) (oi := ⟨some 86, _, _, _, _, _⟩) (v := ?vp25) rfl (by kernel_rfl) (by kernel_rfl) (by kernel_rfl) (fun _ _ _ h => h) (Or.inl ⟨by rfl, ?yp25⟩) (Fr.refl _ _) ?rp25
          case yp25 =>
            intro wq hSw
            (try dsimp only at hSw)
            first | (go_simp; done) | (go_simp; with_reducible rfl)
          try simp only [Act.put, List.setIfInBounds_toArray, List.set_cons_zero, List.set_cons_succ]
          refine wpAnyH_take (i := 26) (oi := ⟨some 87, _, _, _, _, _⟩) (v := ?vp26) rfl (by kernel_rfl) (by kernel_rfl) (by kernel_rfl) (fun _ _ _ h => h) (Or.inl ⟨by rfl, ?yp26⟩) (Fr.refl _ _) ?rp26
          case yp26 =>
            intro wq hSw
            (try dsimp only at hSw)
            first | (go_simp; done) | (go_simp; with_reducible rfl)
          try simp only [Act.put, List.setIfInBounds_toArray, List.set_cons_zero, List.set_cons_succ]
          refine wpAnyH_take (i := 27) (oi := ⟨some 88, _, _, _, _, _⟩) (v := ?vp27) rfl (by kernel_rfl) (by kernel_rfl) (by kernel_rfl) (fun _ _ _ h => h) (Or.inl ⟨by rfl, ?yp27⟩) (Fr.refl _ _) ?rp27
          case yp27 =>
            intro wq hSw
            (try dsimp only at hSw)
            have hq := (HF.out.trans hSw).cell_some K2.out NB.out
            first | (go_simp; done) | (go_simp; with_reducible rfl)
          try simp only [Act.put, List.setIfInBounds_toArray, List.set_cons_zero, List.set_cons_succ]
          refine wpAnyH_ready (rs := [28]) (by kernel_rfl) (by simp) ?_
          refine AllReadyH.cons (o := ⟨some 89, _, _, _, _, _⟩) rfl (fun K hK => ?_) AllReadyH.nil
          go_simp
          refine (alike10_any DK P7.out (by omega) a.d a.at_ OK.out.at1 OK.out.at2).mono ?_; rintro e w8 ⟨rfl, hb⟩
          have P8 := Lib.hid (P7.out.later DK hb)
          have hfr : Fr (fun b => S1 b ∨ w1.heap.size ≤ b) w7 w8 := Fr.of_below hb
          clear hb
          go_wp2_with fail
          refine hK.out _ _ hfr (fun hHeld => ?_)
          clear hK K hHeld
          try simp only [Act.put, List.setIfInBounds_toArray, List.set_cons_zero, List.set_cons_succ]
          refine wpAnyH_re (S' := fun w' => Fr (fun b => S1 b ∨ w1.heap.size ≤ b) w8 w') (fun w' h => hfr.trans h) ?_
          clear hfr
          refine wpAnyH_take (i := 29) (oi := ⟨some 90, _, _, _, _, _⟩) (v := ?vp29) rfl (by kernel_rfl) (by kernel_rfl) (by kernel_rfl) (fun _ _ _ h => h) (Or.inl ⟨by rfl, ?yp29⟩) (Fr.refl _ _) ?rp29
          case yp29 =>
            intro wq hSw
            (try dsimp only at hSw)
            first | (go_simp; done) | (go_simp; with_reducible rfl)
          try simp only [Act.put, List.setIfInBounds_toArray, List.set_cons_zero, List.set_cons_succ]
          refine wpAnyH_take (i := 30) (oi := ⟨some 91, _, _, _, _, _⟩) (v := ?vp30) rfl (by kernel_rfl) (by kernel_rfl) (by kernel_rfl) (fun _ _ _ h => h) (Or.inl ⟨by rfl, ?yp30⟩) (Fr.refl _ _) ?rp30
          case yp30 =>
            intro wq hSw
            (try dsimp only at hSw)
            first | (go_simp; done) | (go_simp; with_reducible rfl)
          try simp only [Act.put, List.setIfInBounds_toArray, List.set_cons_zero, List.set_cons_succ]
          refine wpAnyH_done (by kernel_rfl) ?_ _
          go_wp2_with fail
          go_roundw
          case rel => exact ⟨t + 1, A1, y, S5, by omega, by go_num, rfl, P8.out.mono (by omega), SZ5.out⟩
          case measure => simp [intOf]; omega
        · go_wp2_with fail
          clear kk
          obtain ⟨w1, hw1⟩ : ∃ v, v = wr := ⟨_, rfl⟩
          rw [← hw1] at PR K1 K2 KR hwz ⊢
          clear hw1
          have P1 := Lib.hid (PR.out.later DK (Below.drew (Below.refl _ _)))
          have hF1 : Fr (fun _ => False) w1 w1.drew := Fr.of_below (Below.drew (Below.refl _ _))
          have K1 := Lib.hid (hF1.cell_some K1.out (fun h => h))
          have K2 := Lib.hid (hF1.cell_some K2.out (fun h => h))
          have KR := Lib.hid (show w1.drew.rangeAt ba (oa + t * 7) a.vals from fun j v hv => hF1.cell_some (KR.out j v hv) (fun h => h))
          have NB := Lib.hid (show ¬ (S ba ∨ w1.heap.size ≤ ba) from by
            have := HBA.out
            rintro (q | q)
            · have := PR.out.lo ba q; omega
            · omega)
          clear hF1
          refine wp_region_held_drew (S := fun w' => Fr (fun b => S b ∨ w1.heap.size ≤ b) w1.drew w') (by kernel_rfl) (Fr.refl _ _) (fun hHeld => ?_)
          clear hHeld
          refine wpAnyH_take (i := 0) (oi := ⟨some 61, _, _, _, _, _⟩) (v := ?vq0) rfl (by kernel_rfl) (by kernel_rfl) (by kernel_rfl) (fun _ _ _ h => h) (Or.inl ⟨by rfl, ?yq0⟩) (Fr.refl _ _) ?rq0
          case yq0 =>
            intro wq hSw
            (try dsimp only at hSw)
            first | (go_simp; done) | (go_simp; with_reducible rfl)
          try simp only [Act.put, List.setIfInBounds_toArray, List.set_cons_zero, List.set_cons_succ]
          refine wpAnyH_take (i := 1) (oi := ⟨some 62, _, _, _, _, _⟩) (v := ?vq1) rfl (by kernel_rfl) (by kernel_rfl) (by kernel_rfl) (fun _ _ _ h => h) (Or.inl ⟨by rfl, ?yq1⟩) (Fr.refl _ _) ?rq1
          case yq1 =>
            intro wq hSw
            (try dsimp only at hSw)
            first | (go_simp; done) | (go_simp; with_reducible rfl)
          try simp only [Act.put, List.setIfInBounds_toArray, List.set_cons_zero, List.set_cons_succ]
          refine wpAnyH_take (i := 2) (oi := ⟨some 63, _, _, _, _, _⟩) (v := ?vq2) rfl (by kernel_rfl) (by kernel_rfl) (by kernel_rfl) (fun _ _ _ h => h) (Or.inl ⟨by rfl, ?yq2⟩) (Fr.refl _ _) ?rq2
          case yq2 =>
            intro wq hSw
            (try dsimp only at hSw)
            first | (go_simp; done) | (go_simp; with_reducible rfl)
          try simp only [Act.put, List.setIfInBounds_toArray, List.set_cons_zero, List.set_cons_succ]
          refine wpAnyH_take (i := 3) (oi := ⟨some 64, _, _, _, _, _⟩) (v := ?vq3) rfl (by kernel_rfl) (by kernel_rfl) (by kernel_rfl) (fun _ _ _ h => h) (Or.inl ⟨by rfl, ?yq3⟩) (Fr.refl _ _) ?rq3
          case yq3 =>
            intro wq hSw
            (try dsimp only at hSw)
            first | (go_simp; done) | (go_simp; with_reducible rfl)
          try simp only [Act.put, List.setIfInBounds_toArray, List.set_cons_zero, List.set_cons_succ]
          refine wpAnyH_take (i := 4) (oi := ⟨some 65, _, _, _, _, _⟩) (v := ?vq4) rfl (by kernel_rfl) (by kernel_rfl) (by kernel_rfl) (fun _ _ _ h => h) (Or.inl ⟨by rfl, ?yq4⟩) (Fr.refl _ _) ?rq4
          case yq4 =>
            intro wq hSw
            (try dsimp only at hSw)
            first | (go_simp; done) | (go_simp; with_reducible rfl)
          try simp only [Act.put, List.setIfInBounds_toArray, List.set_cons_zero, List.set_cons_succ]
          refine wpAnyH_take (i := 5) (oi := ⟨some 66, _, _, _, _, _⟩) (v := (.agg a.vals.toArray)) rfl (by kernel_rfl) (by kernel_rfl) (by kernel_rfl) (fun _ _ _ h => h) (Or.inl ⟨by rfl, ?yq5⟩) (Fr.refl _ _) ?rq5
          case yq5 =>
            intro wq hSw
            exact step_loadA10 (x := .tmp 65) (b := ba) (off := oa + t * 7) rfl rfl (fun q v hv => hSw.cell_some (KR.out q v hv) NB.out)
          try simp only [Act.put, List.setIfInBounds_toArray, List.set_cons_zero, List.set_cons_succ]
          refine wpAnyH_ready (rs := [6]) (by kernel_rfl) (by simp) ?_
          refine AllReadyH.cons (o := ⟨some 67, _, _, _, _, _⟩) rfl (fun K hK => ?_) AllReadyH.nil
          go_simp
          refine (act10_any DK P1.out SZ.out (by omega) a OK.out).mono ?_; rintro e w5 ⟨y, S5, rfl, hp, hsz, hn⟩
          have P5 := Lib.hid hp
          have SZ5 := Lib.hid hsz
          have hfr : Fr (fun b => S b ∨ w1.heap.size ≤ b) w1.drew w5 := hn.1.mono (fun b hb => .inl hb)
          have HF := Lib.hid hfr
          clear hp hsz hn
          go_wp2_with fail
          refine hK.out _ _ hfr (fun hHeld => ?_)
          clear hK K hHeld
          try simp only [Act.put, List.setIfInBounds_toArray, List.set_cons_zero, List.set_cons_succ]
          refine wpAnyH_re (S' := fun w' => Fr (fun b => S b ∨ w1.heap.size ≤ b) w5 w') (fun w' h => hfr.trans h) ?_
          clear hfr
          refine wpAnyH_take (i := 7) (oi := ⟨some 68, _, _, _, _, _⟩) (v := ?vq7) rfl (by kernel_rfl) (by kernel_rfl) (by kernel_rfl) (fun _ _ _ h => h) (Or.inl ⟨by rfl, ?yq7⟩) (Fr.refl _ _) ?rq7
          case yq7 =>
            intro wq hSw
            (try dsimp only at hSw)
            first | (go_simp; done) | (go_simp; with_reducible rfl)
          try simp only [Act.put, List.setIfInBounds_toArray, List.set_cons_zero, List.set_cons_succ]
          refine wpAnyH_take (i := 8) (oi := ⟨some 69, _, _, _, _, _⟩) (v := ?vq8) rfl (by kernel_rfl) (by kernel_rfl) (by kernel_rfl) (fun _ _ _ h => h) (Or.inl ⟨by rfl, ?yq8⟩) (Fr.refl _ _) ?rq8
          case yq8 =>
            intro wq hSw
            (try dsimp only at hSw)
            first | (go_simp; done) | (go_simp; with_reducible rfl)
          try simp only [Act.put, List.setIfInBounds_toArray, List.set_cons_zero, List.set_cons_succ]
          refine wpAnyH_take (i := 9) (oi := ⟨some 70, _, _, _, _, _⟩) (v := ?vq9) rfl (by kernel_rfl) (by kernel_rfl) (by kernel_rfl) (fun _ _ _ h => h) (Or.inl ⟨by rfl, ?yq9⟩) (Fr.refl _ _) ?rq9
          case yq9 =>
            intro wq hSw
            (try dsimp only at hSw)
            first | (go_simp; done) | (go_simp; with_reducible rfl)
          try simp only [Act.put, List.setIfInBounds_toArray, List.set_cons_zero, List.set_cons_succ]
          refine wpAnyH_take (i := 11) (oi := ⟨some 72, _, _, _, _, _⟩) (v := ?vq11) rfl (by kernel_rfl) (by kernel_rfl) (by kernel_rfl) (fun _ _ _ h => h) (Or.inl ⟨by rfl, ?yq11⟩) (Fr.refl _ _) ?rq11
          case yq11 =>
            intro wq hSw
            (try dsimp only at hSw)
            first | (go_simp; done) | (go_simp; with_reducible rfl)
          try simp only [Act.put, List.setIfInBounds_toArray, List.set_cons_zero, List.set_cons_succ]
          refine wpAnyH_ready (rs := [10]) (by kernel_rfl) (by simp) ?_
          refine AllReadyH.cons (o := ⟨some 71, _, _, _, _, _⟩) rfl (fun K hK => ?_) AllReadyH.nil
          go_simp
          obtain ⟨Sa5, Sb5, ha5, -, -, -⟩ := P5.out.ex
          have hh := aralive_any DK ha5 (by have := P5.out.la; omega)
          obtain ⟨al, hal⟩ : ∃ al, al = aliveN y y.length := ⟨_, rfl⟩
          rw [← hal] at hh
          have AL := Lib.hid hal
          refine hh.mono ?_; clear hh; rintro e w6 ⟨rfl, hb⟩
          have P6 := Lib.hid (P5.out.later DK hb)
          have hfr : Fr (fun b => S b ∨ w1.heap.size ≤ b) w5 w6 := Fr.of_below hb
          have HF := Lib.hid (HF.out.trans hfr)
          clear hb hal ha5
          go_wp2_with fail
          refine hK.out _ _ hfr (fun hHeld => ?_)
          clear hK K hHeld
          try simp only [Act.put, List.setIfInBounds_toArray, List.set_cons_zero, List.set_cons_succ]
          refine wpAnyH_re (S' := fun w' => Fr (fun b => S b ∨ w1.heap.size ≤ b) w6 w') (fun w' h => hfr.trans h) ?_
          clear hfr
          refine wpAnyH_ready (rs := [12]) (by kernel_rfl) (by simp) ?_
          refine AllReadyH.cons (o := ⟨some 73, _, _, _, _, _⟩) rfl (fun K hK => ?_) AllReadyH.nil
          go_simp
          obtain ⟨Sa6, Sb6, -, hx6, -, -⟩ := P6.out.ex
          have hh := rxalive_any hx6 P6.out.lx.1 (by have := P6.out.lx; omega)
          rw [← AL.out] at hh
          refine hh.mono ?_; clear hh; rintro e w7 ⟨rfl, hb⟩
          have P7 := Lib.hid (P6.out.later DK hb)
          have hfr : Fr (fun b => S b ∨ w1.heap.size ≤ b) w6 w7 := Fr.of_below hb
          have HF := Lib.hid (HF.out.trans hfr)
          clear hb hx6
          go_wp2_with fail
          refine hK.out _ _ hfr (fun hHeld => ?_)
          clear hK K hHeld
          try simp only [Act.put, List.setIfInBounds_toArray, List.set_cons_zero, List.set_cons_succ]
          refine wpAnyH_re (S' := fun w' => Fr (fun b => S b ∨ w1.heap.size ≤ b) w7 w') (fun w' h => hfr.trans h) ?_
          clear hfr
          refine wpAnyH_take (i := 13) (oi := ⟨some 74, _, _, _, _, _⟩) (v := ?vq13) rfl (by kernel_rfl) (by kernel_rfl) (by kernel_rfl) (fun _ _ _ h => h) (Or.inl ⟨by rfl, ?yq13⟩) (Fr.refl _ _) ?rq13
          case yq13 =>
            intro wq hSw
            (try dsimp only at hSw)
            first | (go_simp; done) | (go_simp; with_reducible rfl)
          try simp only [Act.put, List.setIfInBounds_toArray, List.set_cons_zero, List.set_cons_succ]
          refine wpAnyH_take (i := 14) (oi := ⟨some 75, _, _, _, _, _⟩) (v := ?vq14) rfl (by kernel_rfl) (by kernel_rfl) (by kernel_rfl) (fun _ _ _ h => h) (Or.inl ⟨by rfl, ?yq14⟩) (Fr.refl _ _) ?rq14
          case yq14 =>
            intro wq hSw
            (try dsimp only at hSw)
            first | (go_simp; done) | (go_simp; with_reducible rfl)
          try simp only [Act.put, List.setIfInBounds_toArray, List.set_cons_zero, List.set_cons_succ]
          refine wpAnyH_take (i := 15) (oi := ⟨some 76, _, _, _, _, _⟩) (v := ?vq15) rfl (by kernel_rfl) (by kernel_rfl) (by kernel_rfl) (fun _ _ _ h => h) (Or.inl ⟨by rfl, ?yq15⟩) (Fr.refl _ _) ?rq15
          case yq15 =>
            intro wq hSw
            (try dsimp only at hSw)
            first | (go_simp; done) | (go_simp; with_reducible rfl)
          try simp only [Act.put, List.setIfInBounds_toArray, List.set_cons_zero, List.set_cons_succ]
          refine wpAnyH_take (i := 16) (oi := ⟨some 77, _, _, _, _, _⟩) (v := ?vq16) rfl (by kernel_rfl) (by kernel_rfl) (by kernel_rfl) (fun _ _ _ h => h) (Or.inl ⟨by rfl, ?yq16⟩) (Fr.refl _ _) ?rq16
          case yq16 =>
            intro wq hSw
            (try dsimp only at hSw)
            first | (go_simp; done) | (go_simp; with_reducible rfl)
          try simp only [Act.put, List.setIfInBounds_toArray, List.set_cons_zero, List.set_cons_succ]
          refine wpAnyH_take (i := 17) (oi := ⟨some 78, _, _, _, _, _⟩) (v := ?vq17) rfl (by kernel_rfl) (by kernel_rfl) (by kernel_rfl) (fun _ _ _ h => h) (Or.inl ⟨by rfl, ?yq17⟩) (Fr.refl _ _) ?rq17
          case yq17 =>
            intro wq hSw
            (try dsimp only at hSw)
            first | (go_simp; done) | (go_simp; with_reducible rfl)
          try simp only [Act.put, List.setIfInBounds_toArray, List.set_cons_zero, List.set_cons_succ]
          refine wpAnyH_take (i := 18) (oi := ⟨some 79, _, _, _, _, _⟩) (v := ?vq18) rfl (by kernel_rfl) (by kernel_rfl) (by kernel_rfl) (fun _ _ _ h => h) (Or.inl ⟨by rfl, ?yq18⟩) (Fr.refl _ _) ?rq18
          case yq18 =>
            intro wq hSw
            (try dsimp only at hSw)
            first | (go_simp; done) | (go_simp; with_reducible rfl)
          try simp only [Act.put, List.setIfInBounds_toArray, List.set_cons_zero, List.set_cons_succ]
          refine wpAnyH_take (i := 19) (oi := ⟨some 80, _, _, _, _, _⟩) (v := ?vq19) rfl (by kernel_rfl) (by kernel_rfl) (by kernel_rfl) (fun _ _ _ h => h) (Or.inl ⟨by rfl, ?yq19⟩) (Fr.refl _ _) ?rq19
          case yq19 =>
            intro wq hSw
            (try dsimp only at hSw)
            first | (go_simp; done) | (go_simp; with_reducible rfl)
          try simp only [Act.put, List.setIfInBounds_toArray, List.set_cons_zero, List.set_cons_succ]
          refine wpAnyH_take (i := 20) (oi := ⟨some 81, _, _, _, _, _⟩) (v := ?vq20) rfl (by kernel_rfl) (by kernel_rfl) (by kernel_rfl) (fun _ _ _ h => h) (Or.inl ⟨by rfl, ?yq20⟩) (Fr.refl _ _) ?rq20
          case yq20 =>
            intro wq hSw
            (try dsimp only at hSw)
            first | (go_simp; done) | (go_simp; with_reducible rfl)
          try simp only [Act.put, List.setIfInBounds_toArray, List.set_cons_zero, List.set_cons_succ]
          refine wpAnyH_take (i := 21) (oi := ⟨some 82, _, _, _, _, _⟩) (v := ?vq21) rfl (by kernel_rfl) (by kernel_rfl) (by kernel_rfl) (fun _ _ _ h => h) (Or.inl ⟨by rfl, ?yq21⟩) (Fr.refl _ _) ?rq21
          case yq21 =>
            intro wq hSw
            (try dsimp only at hSw)
            first | (go_simp; done) | (go_simp; with_reducible rfl)
          try simp only [Act.put, List.setIfInBounds_toArray, List.set_cons_zero, List.set_cons_succ]
          refine wpAnyH_take (i := 22) (oi := ⟨some 83, _, _, _, _, _⟩) (v := ?vq22) rfl (by kernel_rfl) (by kernel_rfl) (by kernel_rfl) (fun _ _ _ h => h) (Or.inl ⟨by rfl, ?yq22⟩) (Fr.refl _ _) ?rq22
          case yq22 =>
            intro wq hSw
            (try dsimp only at hSw)
            have hq := (HF.out.trans hSw).cell_some K1.out NB.out
            first | (go_simp; done) | (go_simp; with_reducible rfl)
          try simp only [Act.put, List.setIfInBounds_toArray, List.set_cons_zero, List.set_cons_succ]
          refine wpAnyH_take (i := 23) (oi := ⟨some 84, _, _, _, _, _⟩) (v := ?vq23) rfl (by kernel_rfl) (by kernel_rfl) (by kernel_rfl) (fun _ _ _ h => h) (Or.inl ⟨by rfl, ?yq23⟩) (Fr.refl _ _) ?rq23
          case yq23 =>
            intro wq hSw
            (try dsimp only at hSw)
            first | (go_simp; done) | (go_simp; with_reducible rfl)
          try simp only [Act.put, List.setIfInBounds_toArray, List.set_cons_zero, List.set_cons_succ]
          refine wpAnyH_take (i := 24) (oi := ⟨some 85, _, _, _, _, _⟩) (v := ?vq24) rfl (by kernel_rfl) (by kernel_rfl) (by kernel_rfl) (fun _ _ _ h => h) (Or.inl ⟨by rfl, ?yq24⟩) (Fr.refl _ _) ?rq24
          case yq24 =>
            intro wq hSw
            (try dsimp only at hSw)
            first | (go_simp; done) | (go_simp; with_reducible rfl)
          try simp only [Act.put, List.setIfInBounds_toArray, List.set_cons_zero, List.set_cons_succ]
          refine wpAnyH_take (i := 25) (oi := ⟨some 86, _, _, _, _, _⟩) (v := ?vq25) rfl (by kernel_rfl) (by kernel_rfl) (by kernel_rfl) (fun _ _ _ h => h) (Or.inl ⟨by rfl, ?yq25⟩) (Fr.refl _ _) ?rq25
          case yq25 =>
            intro wq hSw
            (try dsimp only at hSw)
            first | (go_simp; done) | (go_simp; with_reducible rfl)
          try simp only [Act.put, List.setIfInBounds_toArray, List.set_cons_zero, List.set_cons_succ]
          refine wpAnyH_take (i := 26) (oi := ⟨some 87, _, _, _, _, _⟩) (v := ?vq26) rfl (by kernel_rfl) (by kernel_rfl) (by kernel_rfl) (fun _ _ _ h => h) (Or.inl ⟨by rfl, ?yq26⟩) (Fr.refl _ _) ?rq26
          case yq26 =>
            intro wq hSw
            (try dsimp only at hSw)
            first | (go_simp; done) | (go_simp; with_reducible rfl)
          try simp only [Act.put, List.setIfInBounds_toArray, List.set_cons_zero, List.set_cons_succ]
          refine wpAnyH_take (i := 27) (oi := ⟨some 88, _, _, _, _, _⟩) (v := ?vq27) rfl (by kernel_rfl) (by kernel_rfl) (by kernel_rfl) (fun _ _ _ h => h) (Or.inl ⟨by rfl, ?yq27⟩) (Fr.refl _ _) ?rq27
          case yq27 =>
            intro wq hSw
            (try dsimp only at hSw)
            have hq := (HF.out.trans hSw).cell_some K2.out NB.out
            first | (go_simp; done) | (go_simp; with_reducible rfl)
          try simp only [Act.put, List.setIfInBounds_toArray, List.set_cons_zero, List.set_cons_succ]
          refine wpAnyH_ready (rs := [28]) (by kernel_rfl) (by simp) ?_
          refine AllReadyH.cons (o := ⟨some 89, _, _, _, _, _⟩) rfl (fun K hK => ?_) AllReadyH.nil
          go_simp
          refine (alike10_any DK P7.out (by omega) a.d a.at_ OK.out.at1 OK.out.at2).mono ?_; rintro e w8 ⟨rfl, hb⟩
          have P8 := Lib.hid (P7.out.later DK hb)
          have hfr : Fr (fun b => S b ∨ w1.heap.size ≤ b) w7 w8 := Fr.of_below hb
          clear hb
          go_wp2_with fail
          refine hK.out _ _ hfr (fun hHeld => ?_)
          clear hK K hHeld
          try simp only [Act.put, List.setIfInBounds_toArray, List.set_cons_zero, List.set_cons_succ]
          refine wpAnyH_re (S' := fun w' => Fr (fun b => S b ∨ w1.heap.size ≤ b) w8 w') (fun w' h => hfr.trans h) ?_
          clear hfr
          refine wpAnyH_take (i := 29) (oi := ⟨some 90, _, _, _, _, _⟩) (v := ?vq29) rfl (by kernel_rfl) (by kernel_rfl) (by kernel_rfl) (fun _ _ _ h => h) (Or.inl ⟨by rfl, ?yq29⟩) (Fr.refl _ _) ?rq29
          case yq29 =>
            intro wq hSw
            (try dsimp only at hSw)
            first | (go_simp; done) | (go_simp; with_reducible rfl)
          try simp only [Act.put, List.setIfInBounds_toArray, List.set_cons_zero, List.set_cons_succ]
          refine wpAnyH_take (i := 30) (oi := ⟨some 91, _, _, _, _, _⟩) (v := ?vq30) rfl (by kernel_rfl) (by kernel_rfl) (by kernel_rfl) (fun _ _ _ h => h) (Or.inl ⟨by rfl, ?yq30⟩) (Fr.refl _ _) ?rq30
          case yq30 =>
            intro wq hSw
            (try dsimp only at hSw)
            first | (go_simp; done) | (go_simp; with_reducible rfl)
          try simp only [Act.put, List.setIfInBounds_toArray, List.set_cons_zero, List.set_cons_succ]
          refine wpAnyH_done (by kernel_rfl) ?_ _
          go_wp2_with fail
          go_roundw
          case rel => exact ⟨t + 1, A, y, S5, by omega, by go_num, rfl, P8.out.mono (by omega), SZ5.out⟩
          case measure => simp [intOf]; omega
      · have hti : ¬ (t : Int) < (nl : Int) := by omega
        have hK : 25 * t ≤ 2000 := by omega
        obtain ⟨K, hKe⟩ : ∃ K, K = 25 * t := ⟨_, rfl⟩
        rw [← hKe] at PR hK
        clear hKe htl ht
        go_wp2_with fail
        go_loopw [10] (fun i wr => ∃ p : Nat, p ≤ M + 2 ∧ i = .int .i64 ((p : Int) - 1) ∧ Pa Rep w wr S A X K xs xs) (fun i _ => ((M : Int) + 1 - intOf i).toNat)
        case atStart => exact ⟨0, by omega, by first | rfl | simp, PR.out⟩
        case round =>
          obtain ⟨p, hp, rfl, hpa⟩ := hrel
          have PD := Lib.hid hpa
          clear hpa
          by_cases hpM : p < M + 2
          · have hpi : (p : Int) - 1 ≤ (M : Int) := by omega
            obtain ⟨Sa, Sb, ha, hx, _, _⟩ := PD.out.ex
            have HX := Lib.hid hx
            have hR := arrow_any DK ha ((p : Int) - 1) (by omega) (by omega) (wl_up PD.out.wl (by omega)) (by have := PD.out.la; omega)
            unfold RetNs at hR
            rw [rowL_len, SZ.out.1] at hR
            clear ha hx
            go_wp2_with fail
            refine hR.mono ?_; clear hR; rintro e w3 ⟨A3, c3, rfl, hns, hb3⟩
            obtain ⟨b3, o3, f3, g3, rfl, hnc⟩ := hns.fix (by omega)
            have KX := Lib.hid hnc
            have B3 := Lib.hid hb3
            clear hns hnc hb3
            go_wp2_with fail
            have hR := rxrow_any (Arr.later (layX K) HX.out B3.out) PD.out.lx.1 (by have := PD.out.lx; omega) (by omega) ((p : Int) - 1) (by omega) (by omega)
            rw [SZ.out.1] at hR
            refine hR.mono ?_; clear hR; rintro e w4 ⟨A4, c4, rfl, hns, hb4⟩
            obtain ⟨b4, o4, f4, g4, rfl, hnc⟩ := hns.fix (by omega)
            have KY := Lib.hid hnc
            have KX := Lib.hid (KX.out.later hb4)
            have PD4 := Lib.hid (PD.out.later DK (B3.out.trans (hb4.mono B3.out.size)))
            clear hns hnc hb4
            go_wp2_with fail
            go_loopw [13] (fun i wr => ∃ q : Nat, q ≤ N ∧ i = .int .i64 (q : Int) ∧ Below w4.heap.size w4 wr) (fun i _ => N - (intOf i).toNat)
            case atStart => exact ⟨0, by omega, rfl, Below.refl _ _⟩
            case round =>
              obtain ⟨q, hq, rfl, hB⟩ := hrel
              have HB := Lib.hid hB
              clear hB
              by_cases hqN : q < N
              · have hqi : (q : Int) < (N : Int) := by omega
                obtain ⟨xq, hxq⟩ : ∃ xq, xs[q]? = some xq := ⟨_, List.getElem?_eq_getElem (by have := SZ.out.1; omega)⟩
                have hrl : (rowL xs ((p : Int) - 1))[q]? = some (xq.readL ((p : Int) - 1)) := rowL_at hxq
                obtain ⟨l, hl⟩ : ∃ l, l = xq.readL ((p : Int) - 1) := ⟨_, rfl⟩
                rw [← hl] at hrl
                have hbd : Below w4.heap.size w4 wr.drew := Below.drew HB.out
                have C1 := Lib.hid ((KX.out.later hbd).cell q l hrl)
                have C2 := Lib.hid ((KY.out.later hbd).cell q l hrl)
                have T1 := Lib.hid ((KX.out.later hbd).sl q l hrl)
                have T2 := Lib.hid ((KY.out.later hbd).sl q l hrl)
                have PD := Lib.hid (PD4.out.later DK hbd)
                clear hxq hrl hl hbd
                go_wp2_with fail
                refine wp_region_held_drew (S := fun w' => Fr (fun _ => False) wr.drew w') (by kernel_rfl) (Fr.refl _ _) (fun hHeld => ?_)
                clear hHeld
                refine wpAnyH_take (i := 0) (oi := ⟨some 113, _, _, _, _, _⟩) (v := ?vy0) rfl (by kernel_rfl) (by kernel_rfl) (by kernel_rfl) (fun _ _ _ h => h) (Or.inl ⟨by rfl, ?yy0⟩) (Fr.refl _ _) ?ry0
                case yy0 =>
                  intro wq hSw
                  (try dsimp only at hSw)
                  first | (go_simp; done) | (go_simp; with_reducible rfl)
                try simp only [Act.put, List.setIfInBounds_toArray, List.set_cons_zero, List.set_cons_succ]
                refine wpAnyH_take (i := 1) (oi := ⟨some 114, _, _, _, _, _⟩) (v := ?vy1) rfl (by kernel_rfl) (by kernel_rfl) (by kernel_rfl) (fun _ _ _ h => h) (Or.inl ⟨by rfl, ?yy1⟩) (Fr.refl _ _) ?ry1
                case yy1 =>
                  intro wq hSw
                  (try dsimp only at hSw)
                  first | (go_simp; done) | (go_simp; with_reducible rfl)
                try simp only [Act.put, List.setIfInBounds_toArray, List.set_cons_zero, List.set_cons_succ]
                refine wpAnyH_take (i := 2) (oi := ⟨some 115, _, _, _, _, _⟩) (v := ?vy2) rfl (by kernel_rfl) (by kernel_rfl) (by kernel_rfl) (fun _ _ _ h => h) (Or.inl ⟨by rfl, ?yy2⟩) (Fr.refl _ _) ?ry2
                case yy2 =>
                  intro wq hSw
                  (try dsimp only at hSw)
                  first | (go_simp; done) | (go_simp; with_reducible rfl)
                try simp only [Act.put, List.setIfInBounds_toArray, List.set_cons_zero, List.set_cons_succ]
                refine wpAnyH_take (i := 3) (oi := ⟨some 116, _, _, _, _, _⟩) (v := ?vy3) rfl (by kernel_rfl) (by kernel_rfl) (by kernel_rfl) (fun _ _ _ h => h) (Or.inl ⟨by rfl, ?yy3⟩) (Fr.refl _ _) ?ry3
                case yy3 =>
                  intro wq hSw
                  (try dsimp only at hSw)
                  have hq := hSw.cell_some C1.out (fun h => h)
                  first | (go_simp; done) | (go_simp; with_reducible rfl)
                try simp only [Act.put, List.setIfInBounds_toArray, List.set_cons_zero, List.set_cons_succ]
                refine wpAnyH_take (i := 4) (oi := ⟨some 117, _, _, _, _, _⟩) (v := ?vy4) rfl (by kernel_rfl) (by kernel_rfl) (by kernel_rfl) (fun _ _ _ h => h) (Or.inl ⟨by rfl, ?yy4⟩) (Fr.refl _ _) ?ry4
                case yy4 =>
                  intro wq hSw
                  (try dsimp only at hSw)
                  have kk := str_of (T1.out.fr hSw (fun _ _ _ _ h => h))
                  first | (go_simp; done) | (go_simp; with_reducible rfl)
                try simp only [Act.put, List.setIfInBounds_toArray, List.set_cons_zero, List.set_cons_succ]
                refine wpAnyH_take (i := 5) (oi := ⟨some 118, _, _, _, _, _⟩) (v := ?vy5) rfl (by kernel_rfl) (by kernel_rfl) (by kernel_rfl) (fun _ _ _ h => h) (Or.inl ⟨by rfl, ?yy5⟩) (Fr.refl _ _) ?ry5
                case yy5 =>
                  intro wq hSw
                  (try dsimp only at hSw)
                  first | (go_simp; done) | (go_simp; with_reducible rfl)
                try simp only [Act.put, List.setIfInBounds_toArray, List.set_cons_zero, List.set_cons_succ]
                refine wpAnyH_take (i := 6) (oi := ⟨some 119, _, _, _, _, _⟩) (v := ?vy6) rfl (by kernel_rfl) (by kernel_rfl) (by kernel_rfl) (fun _ _ _ h => h) (Or.inl ⟨by rfl, ?yy6⟩) (Fr.refl _ _) ?ry6
                case yy6 =>
                  intro wq hSw
                  (try dsimp only at hSw)
                  first | (go_simp; done) | (go_simp; with_reducible rfl)
                try simp only [Act.put, List.setIfInBounds_toArray, List.set_cons_zero, List.set_cons_succ]
                refine wpAnyH_take (i := 7) (oi := ⟨some 120, _, _, _, _, _⟩) (v := ?vy7) rfl (by kernel_rfl) (by kernel_rfl) (by kernel_rfl) (fun _ _ _ h => h) (Or.inl ⟨by rfl, ?yy7⟩) (Fr.refl _ _) ?ry7
                case yy7 =>
                  intro wq hSw
                  (try dsimp only at hSw)
                  first | (go_simp; done) | (go_simp; with_reducible rfl)
                try simp only [Act.put, List.setIfInBounds_toArray, List.set_cons_zero, List.set_cons_succ]
                refine wpAnyH_take (i := 8) (oi := ⟨some 121, _, _, _, _, _⟩) (v := ?vy8) rfl (by kernel_rfl) (by kernel_rfl) (by kernel_rfl) (fun _ _ _ h => h) (Or.inl ⟨by rfl, ?yy8⟩) (Fr.refl _ _) ?ry8
                case yy8 =>
                  intro wq hSw
                  (try dsimp only at hSw)
                  have hq := hSw.cell_some C2.out (fun h => h)
                  first | (go_simp; done) | (go_simp; with_reducible rfl)
                try simp only [Act.put, List.setIfInBounds_toArray, List.set_cons_zero, List.set_cons_succ]
                refine wpAnyH_take (i := 9) (oi := ⟨some 122, _, _, _, _, _⟩) (v := ?vy9) rfl (by kernel_rfl) (by kernel_rfl) (by kernel_rfl) (fun _ _ _ h => h) (Or.inl ⟨by rfl, ?yy9⟩) (Fr.refl _ _) ?ry9
                case yy9 =>
                  intro wq hSw
                  (try dsimp only at hSw)
                  have kk := str_of (T2.out.fr hSw (fun _ _ _ _ h => h))
                  first | (go_simp; done) | (go_simp; with_reducible rfl)
                try simp only [Act.put, List.setIfInBounds_toArray, List.set_cons_zero, List.set_cons_succ]
                refine wpAnyH_take (i := 10) (oi := ⟨some 123, _, _, _, _, _⟩) (v := ?vy10) rfl (by kernel_rfl) (by kernel_rfl) (by kernel_rfl) (fun _ _ _ h => h) (Or.inl ⟨by rfl, ?yy10⟩) (Fr.refl _ _) ?ry10
                case yy10 =>
                  intro wq hSw
                  (try dsimp only at hSw)
                  first | (go_simp; done) | (go_simp; with_reducible rfl)
                try simp only [Act.put, List.setIfInBounds_toArray, List.set_cons_zero, List.set_cons_succ]
                refine wpAnyH_take (i := 11) (oi := ⟨some 124, _, _, _, _, _⟩) (v := ?vy11) rfl (by kernel_rfl) (by kernel_rfl) (by kernel_rfl) (fun _ _ _ h => h) (Or.inl ⟨by rfl, ?yy11⟩) (Fr.refl _ _) ?ry11
                case yy11 =>
                  intro wq hSw
                  (try dsimp only at hSw)
                  first | (go_simp; done) | (go_simp; with_reducible rfl)
                try simp only [Act.put, List.setIfInBounds_toArray, List.set_cons_zero, List.set_cons_succ]
                refine wpAnyH_take (i := 12) (oi := ⟨some 125, _, _, _, _, _⟩) (v := ?vy12) rfl (by kernel_rfl) (by kernel_rfl) (by kernel_rfl) (fun _ _ _ h => h) (Or.inl ⟨by rfl, ?yy12⟩) (Fr.refl _ _) ?ry12
                case yy12 =>
                  intro wq hSw
                  (try dsimp only at hSw)
                  first | (go_simp; done) | (go_simp; with_reducible rfl)
                try simp only [Act.put, List.setIfInBounds_toArray, List.set_cons_zero, List.set_cons_succ]
                refine wpAnyH_take (i := 13) (oi := ⟨some 126, _, _, _, _, _⟩) (v := ?vy13) rfl (by kernel_rfl) (by kernel_rfl) (by kernel_rfl) (fun _ _ _ h => h) (Or.inl ⟨by rfl, ?yy13⟩) (Fr.refl _ _) ?ry13
                case yy13 =>
                  intro wq hSw
                  (try dsimp only at hSw)
                  first | (go_simp; done) | (go_simp; with_reducible rfl)
                try simp only [Act.put, List.setIfInBounds_toArray, List.set_cons_zero, List.set_cons_succ]
                refine wpAnyH_take (i := 14) (oi := ⟨some 127, _, _, _, _, _⟩) (v := ?vy14) rfl (by kernel_rfl) (by kernel_rfl) (by kernel_rfl) (fun _ _ _ h => h) (Or.inl ⟨by rfl, ?yy14⟩) (Fr.refl _ _) ?ry14
                case yy14 =>
                  intro wq hSw
                  (try dsimp only at hSw)
                  first | (go_simp; done) | (go_simp; with_reducible rfl)
                try simp only [Act.put, List.setIfInBounds_toArray, List.set_cons_zero, List.set_cons_succ]
                refine wpAnyH_take (i := 15) (oi := ⟨some 128, _, _, _, _, _⟩) (v := ?vy15) rfl (by kernel_rfl) (by kernel_rfl) (by kernel_rfl) (fun _ _ _ h => h) (Or.inl ⟨by rfl, ?yy15⟩) (Fr.refl _ _) ?ry15
                case yy15 =>
                  intro wq hSw
                  (try dsimp only at hSw)
                  first | (go_simp; done) | (go_simp; with_reducible rfl)
                try simp only [Act.put, List.setIfInBounds_toArray, List.set_cons_zero, List.set_cons_succ]
                refine wpAnyH_ready (rs := [16]) (by kernel_rfl) (by simp) ?_
                refine AllReadyH.cons (o := ⟨some 129, _, _, _, _, _⟩) rfl (fun K hK => ?_) AllReadyH.nil
                go_simp
                refine (alike10_any DK PD.out (by omega) (q : Int) ((p : Int) - 1) (by omega) (by omega)).mono ?_; rintro e w8 ⟨rfl, hb⟩
                have HB8 := Lib.hid hb
                have hfr := Fr.of_below (S := fun _ => False) hb
                clear hb
                go_wp2_with fail
                refine hK.out _ _ hfr (fun hHeld => ?_)
                clear hK K hHeld
                try simp only [Act.put, List.setIfInBounds_toArray, List.set_cons_zero, List.set_cons_succ]
                refine wpAnyH_re (S' := fun w' => Fr (fun _ => False) w8 w') (fun w' h => hfr.trans h) ?_
                clear hfr
                refine wpAnyH_take (i := 17) (oi := ⟨some 130, _, _, _, _, _⟩) (v := ?vy17) rfl (by kernel_rfl) (by kernel_rfl) (by kernel_rfl) (fun _ _ _ h => h) (Or.inl ⟨by rfl, ?yy17⟩) (Fr.refl _ _) ?ry17
                case yy17 =>
                  intro wq hSw
                  (try dsimp only at hSw)
                  first | (go_simp; done) | (go_simp; with_reducible rfl)
                try simp only [Act.put, List.setIfInBounds_toArray, List.set_cons_zero, List.set_cons_succ]
                refine wpAnyH_take (i := 18) (oi := ⟨some 131, _, _, _, _, _⟩) (v := ?vy18) rfl (by kernel_rfl) (by kernel_rfl) (by kernel_rfl) (fun _ _ _ h => h) (Or.inl ⟨by rfl, ?yy18⟩) (Fr.refl _ _) ?ry18
                case yy18 =>
                  intro wq hSw
                  (try dsimp only at hSw)
                  first | (go_simp; done) | (go_simp; with_reducible rfl)
                try simp only [Act.put, List.setIfInBounds_toArray, List.set_cons_zero, List.set_cons_succ]
                refine wpAnyH_done (by kernel_rfl) ?_ _
                go_wp2_with fail
                go_roundw
                case rel => exact ⟨q + 1, by omega, by go_num, (Below.drew HB.out).trans (HB8.out.mono (Below.drew HB.out).size)⟩
                case measure => simp [intOf]; omega
              · have hqi : ¬ (q : Int) < (N : Int) := by omega
                have PDn := Lib.hid (PD4.out.later DK HB.out)
                go_wp2_with fail
                go_roundw
                case rel => exact ⟨p + 1, by omega, by first | go_num | (congr 1; omega), PDn.out⟩
                case measure => simp [intOf]; omega
          · have hpi : ¬ (p : Int) - 1 ≤ (M : Int) := by omega
            obtain ⟨Sa, Sb, ha, hx, _, _⟩ := PD.out.ex
            have HA := Lib.hid ha
            have hN := arN_any ha
            rw [SZ.out.1] at hN
            clear ha hx
            go_wp2_with fail
            refine hN.mono ?_; clear hN; rintro e w3 ⟨rfl, hw3⟩
            obtain rfl : wr = w3 := hw3.symm
            go_wp2_with fail
            obtain ⟨x0, hx0⟩ : ∃ x0, xs[0]? = some x0 := ⟨_, List.getElem?_eq_getElem (by have := SZ.out.1; omega)⟩
            have hS := arsectors_any DK HA.out hx0
            rw [SZ.out.2 0 x0 hx0] at hS
            clear hx0
            refine hS.mono ?_; clear hS; rintro e w5 ⟨rfl, hb5⟩
            have B5 := Lib.hid (PD.out.bel.trans (hb5.mono PD.out.bel.size))
            clear hb5
            go_wp2_with fail
            refine (stands10_any DK _).mono ?_; rintro e w6 ⟨rfl, hb6⟩
            have B6 := Lib.hid (B5.out.trans (hb6.mono B5.out.size))
            clear hb6
            go_wp2_with fail
            go_ret
            exact ⟨rfl, B6.out⟩
  · have hnn := gy
    go_enter Try.func3, Try.ntmps3
    go_wp2_with fail
    refine hfw.mono ?_; clear hfw; rintro e wa ⟨β, rfl, hβ, hb0⟩
    have B0 := Lib.hid hb0
    clear hb0 hβ
    cases β
    · go_wp2_with fail
      refine (stands10_any DK _).mono ?_; rintro e w2 ⟨rfl, hb⟩
      have B2 := Lib.hid (B0.out.trans (hb.mono B0.out.size))
      clear hb
      go_wp2_with fail
      go_ret
      exact ⟨rfl, B2.out⟩
    by_cases v1 : 12 < n
    · have v2 : ¬ n ≤ 255 := by omega
      by_cases v3 : 20 < m
      · have v4 : ¬ m ≤ 600 := by omega
        go_wp2_with fail
        refine (arnew_no DK n m wa bn bm hnn).mono ?_; rintro e w1 ⟨rfl, hb1⟩
        have B1 := Lib.hid (B0.out.trans (hb1.mono B0.out.size))
        clear hb1
        go_wp2_with fail
        refine (rxnew_no n m w1 hnn).mono ?_; rintro e w2 ⟨rfl, hb2⟩
        have B2 := Lib.hid (B1.out.trans (hb2.mono B1.out.size))
        clear hb2
        go_wp2_with fail
        refine (stands10_any DK _).mono ?_; rintro e w3 ⟨rfl, hb3⟩
        have B3 := Lib.hid (B2.out.trans (hb3.mono B2.out.size))
        clear hb3
        go_wp2_with fail
        go_ret
        exact ⟨rfl, B3.out⟩
      · go_wp2_with fail
        refine (arnew_no DK n m wa bn bm hnn).mono ?_; rintro e w1 ⟨rfl, hb1⟩
        have B1 := Lib.hid (B0.out.trans (hb1.mono B0.out.size))
        clear hb1
        go_wp2_with fail
        refine (rxnew_no n m w1 hnn).mono ?_; rintro e w2 ⟨rfl, hb2⟩
        have B2 := Lib.hid (B1.out.trans (hb2.mono B1.out.size))
        clear hb2
        go_wp2_with fail
        refine (stands10_any DK _).mono ?_; rintro e w3 ⟨rfl, hb3⟩
        have B3 := Lib.hid (B2.out.trans (hb3.mono B2.out.size))
        clear hb3
        go_wp2_with fail
        go_ret
        exact ⟨rfl, B3.out⟩
    · by_cases v3 : 20 < m
      · have v4 : ¬ m ≤ 600 := by omega
        go_wp2_with fail
        refine (arnew_no DK n m wa bn bm hnn).mono ?_; rintro e w1 ⟨rfl, hb1⟩
        have B1 := Lib.hid (B0.out.trans (hb1.mono B0.out.size))
        clear hb1
        go_wp2_with fail
        refine (rxnew_no n m w1 hnn).mono ?_; rintro e w2 ⟨rfl, hb2⟩
        have B2 := Lib.hid (B1.out.trans (hb2.mono B1.out.size))
        clear hb2
        go_wp2_with fail
        refine (stands10_any DK _).mono ?_; rintro e w3 ⟨rfl, hb3⟩
        have B3 := Lib.hid (B2.out.trans (hb3.mono B2.out.size))
        clear hb3
        go_wp2_with fail
        go_ret
        exact ⟨rfl, B3.out⟩
      · go_wp2_with fail
        refine (arnew_no DK n m wa bn bm hnn).mono ?_; rintro e w1 ⟨rfl, hb1⟩
        have B1 := Lib.hid (B0.out.trans (hb1.mono B0.out.size))
        clear hb1
        go_wp2_with fail
        refine (rxnew_no n m w1 hnn).mono ?_; rintro e w2 ⟨rfl, hb2⟩
        have B2 := Lib.hid (B1.out.trans (hb2.mono B1.out.size))
        clear hb2
        go_wp2_with fail
        refine (stands10_any DK _).mono ?_; rintro e w3 ⟨rfl, hb3⟩
        have B3 := Lib.hid (B2.out.trans (hb3.mono B2.out.size))
        clear hb3
        go_wp2_with fail
        go_ret
        exact ⟨rfl, B3.out⟩
end
end Go.Proofs.Ytjjoeaneaibklaa
