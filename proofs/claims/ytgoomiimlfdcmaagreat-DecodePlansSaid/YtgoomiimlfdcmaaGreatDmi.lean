/-
  DecodePlans returns true, whatever its arguments. No condition.
-/
import Derived.Test.YtgoomiimlfdcmaaGreatDmh
import Derived.Test.YtgoomiimlfdcmaaGreatCbd
import Derived.Test.YtgoomiimlfdcmaaGreatInt
namespace Go.Proofs.YtgoomiimlfdcmaaGreat
open Go.RowKit Go.Proofs
set_option linter.unusedVariables false

/-- The sum of the first i factors' multiples of rows. -/
def comb (k : Nat) (pl : List UInt8) (t : List Nat) (i : Nat) : List UInt8 := rowL k fun p => xs i fun a => gm (pl.getD a 0) (facB k (t.getD a 0) p)
theorem comb_length (k : Nat) (pl : List UInt8) (t : List Nat) (i : Nat) : (comb k pl t i).length = k := rowL_length _ _
theorem comb_zero (k : Nat) (pl : List UInt8) (t : List Nat) : List.replicate k (0 : UInt8) = comb k pl t 0 := by
  refine List.ext_getElem? fun j => ?_
  by_cases hj : j < k
  · rw [comb, rowL_get k _ j hj, List.getElem?_replicate, if_pos hj]
    rfl
  · rw [List.getElem?_eq_none (by rw [List.length_replicate]; omega), List.getElem?_eq_none (by rw [comb_length]; omega)]
theorem comb_next (k : Nat) (pl : List UInt8) (t : List Nat) (i : Nat) : fld (pl.getD i 0) (rowC k (t.getD i 0)) (comb k pl t i) = comb k pl t (i + 1) := rowL_fld k (pl.getD i 0) (facB k (t.getD i 0)) _
/-- The factors times the shards' own rows are the wanted shard's row. -/
theorem comb_all {k x : Nat} {X : Mx} {t : List Nat} (hX : Alike k k (mm k X (facM k (t.take k))) one) : comb k (planL k X x) t k = rowC k x := by
  refine rowL_congr fun p hp => ?_
  have e0 : (xs k fun a => gm ((planL k X x).getD a 0) (facB k (t.getD a 0) p)) = mm k (mm k (fun _ j => facB k x j) X) (facM k (t.take k)) 0 p := xs_congr k fun a ha => by
    rw [planL, rowL_getD k _ a ha, facM, take_getD ha]
    rfl
  rw [e0, mm_assoc, mm_congr (r := 1) (fun _ _ _ _ => rfl) hX 0 (by decide) p hp, mm_one_right k _ 0 p hp]
theorem ncells_at (l : List Nat) (j : Nat) (h : j < l.length) : (ncells l)[j]? = some (.int .i64 ((l.getD j 0 : Nat) : Int)) := by simp [ncells, h]
theorem cells_at (l : List UInt8) (j : Nat) (h : j < l.length) : (cells l)[j]? = some (.int .u8 ((l.getD j 0).toNat : Int)) := by
  rw [cells_get l j h, bv]
  simp [h]

set_option maxRecDepth 100000 in
set_option maxHeartbeats 3200000 in
theorem decodePlans_walk (k m : Int) (A : Option Addr) (c : Nat) (hv : List Int) (want : Int) (w : World) (hk : -9223372036854775808 ≤ k ∧ k < 9223372036854775808) (hm : -9223372036854775808 ≤ m ∧ m < 9223372036854775808) (hw : -9223372036854775808 ≤ want ∧ want < 9223372036854775808) (hs : Sl w 1 A hv.length c (icells hv)) (hz : ∀ z ∈ hv, -9223372036854775808 ≤ z ∧ z < 9223372036854775808) :
    Calls Tryz.prog 4 #[.int .i64 k, .int .i64 m, .slice A hv.length c, .int .i64 want] w (SaysTrue w) := by
  obtain ⟨q, hq⟩ : ∃ q, q = hv.length := ⟨_, rfl⟩
  rw [← hq] at hs ⊢
  have hlim := hs.lim
  unfold maxLen at hlim
  have HS := Lib.hid hs
  have HZ := Lib.hid hz
  have Hq := Lib.hid hq
  clear hs hz hq
  by_cases hmay : 1 ≤ k ∧ 1 ≤ m ∧ k + m ≤ 255
  · obtain ⟨K0, hK0⟩ : ∃ x : Nat, k = (x : Int) := ⟨k.toNat, by omega⟩
    obtain ⟨M0, hM0⟩ : ∃ x : Nat, m = (x : Int) := ⟨m.toNat, by omega⟩
    subst hK0; subst hM0
    have hb1 : 1 ≤ K0 := by omega
    have hb2 : 1 ≤ M0 := by omega
    have hb3 : K0 + M0 ≤ 255 := by omega
    have hkw : IntKind.i64.wrap ((K0 : Int) + (M0 : Int)) = (K0 : Int) + (M0 : Int) := by rw [IntKind.wrap_i64]; omega
    have hrm := fun u => rmay_any (K0 : Int) (M0 : Int) hk hm u
    rw [mayB_t hmay] at hrm
    clear hmay hk hm
    by_cases h24 : (24 : Int) < (K0 : Int) + (M0 : Int)
    · go_enter Tryz.func4, Tryz.ntmps4
      go_wp2_with fail
      refine (new_any _).mono ?_; rintro e w1 ⟨rfl, hf, hb⟩
      obtain ⟨F, hF⟩ : ∃ F, F = w.heap.size + 1 := ⟨_, rfl⟩
      obtain ⟨T, hT⟩ : ∃ T, T = w.heap.size := ⟨_, rfl⟩
      rw [← hF] at hf ⊢
      rw [← hT] at hf
      have HT := Lib.hid (show w.heap.size ≤ T by omega)
      clear hF hT
      go_wp2_with fail
      refine (cnew_at F T (K0 : Int) (M0 : Int) K0 M0 rfl rfl ⟨hb1, hb2, hb3⟩ _ hf).mono ?_; rintro e w2 ⟨C, rfl, hC, hr⟩
      have L2 := Lib.hid (Lw.of hb HT.out hr hC.fld)
      have C2 := Lib.hid hC
      clear hf hb hC hr
      go_wp2_with fail
      refine (hrm _).mono ?_; clear hrm; rintro e w3 ⟨rfl, rfl⟩
      go_wp2_with fail
      refine (decodes_any _).mono ?_; rintro e wz ⟨rfl, hbz⟩
      have LZ := Lib.hid (L2.out.later hbz)
      clear hbz
      go_wp2_with fail
      go_ret
      exact ⟨rfl, LZ.out.bel⟩
    · by_cases h100 : (100 : Int) < (q : Int)
      · go_enter Tryz.func4, Tryz.ntmps4
        go_wp2_with fail
        refine (new_any _).mono ?_; rintro e w1 ⟨rfl, hf, hb⟩
        obtain ⟨F, hF⟩ : ∃ F, F = w.heap.size + 1 := ⟨_, rfl⟩
        obtain ⟨T, hT⟩ : ∃ T, T = w.heap.size := ⟨_, rfl⟩
        rw [← hF] at hf ⊢
        rw [← hT] at hf
        have HT := Lib.hid (show w.heap.size ≤ T by omega)
        clear hF hT
        go_wp2_with fail
        refine (cnew_at F T (K0 : Int) (M0 : Int) K0 M0 rfl rfl ⟨hb1, hb2, hb3⟩ _ hf).mono ?_; rintro e w2 ⟨C, rfl, hC, hr⟩
        have L2 := Lib.hid (Lw.of hb HT.out hr hC.fld)
        have C2 := Lib.hid hC
        clear hf hb hC hr
        go_wp2_with fail
        refine (hrm _).mono ?_; clear hrm; rintro e w3 ⟨rfl, rfl⟩
        go_wp2_with fail
        refine (decodes_any _).mono ?_; rintro e wz ⟨rfl, hbz⟩
        have LZ := Lib.hid (L2.out.later hbz)
        clear hbz
        go_wp2_with fail
        go_ret
        exact ⟨rfl, LZ.out.bel⟩
      · go_enter Tryz.func4, Tryz.ntmps4
        go_wp2_with fail
        refine (new_any _).mono ?_; rintro e w1 ⟨rfl, hf, hb⟩
        obtain ⟨F, hF⟩ : ∃ F, F = w.heap.size + 1 := ⟨_, rfl⟩
        obtain ⟨T, hT⟩ : ∃ T, T = w.heap.size := ⟨_, rfl⟩
        rw [← hF] at hf ⊢
        rw [← hT] at hf
        have HT := Lib.hid (show w.heap.size ≤ T by omega)
        clear hF hT
        go_wp2_with fail
        refine (cnew_at F T (K0 : Int) (M0 : Int) K0 M0 rfl rfl ⟨hb1, hb2, hb3⟩ _ hf).mono ?_; rintro e w2 ⟨C, rfl, hC, hr⟩
        have L2 := Lib.hid (Lw.of hb HT.out hr hC.fld)
        have C2 := Lib.hid hC
        clear hf hb hC hr
        go_wp2_with fail
        refine (hrm _).mono ?_; clear hrm; rintro e w3 ⟨rfl, rfl⟩
        have H2 := Lib.hid (HS.out.below L2.out.bel (Nat.le_refl _))
        go_wp2_with fail
        have hpa := plan_any C K0 M0 F T A q c hv want _ C2.out H2.out HZ.out (by omega)
        have hso := fun u hu => rsorted_any (K0 + M0) A q c hv u hu (by omega) (by omega)
        simp only [Int.natCast_add] at hpa hso
        refine hpa.mono ?_; clear hpa; rintro e w5 ⟨hR, hb5⟩
        have L5 := Lib.hid (L2.out.later hb5)
        have H5 := Lib.hid (H2.out.below hb5 (Nat.le_refl _))
        clear hb5 L2 H2
        clear C2
        rcases hR with ⟨hno, rfl⟩ | ⟨⟨hA, hwt, hqk⟩, rfl⟩ | ⟨hA, hwt, hkq, A1, c1, A2, c2, X, rfl, hs1, hX, hs2⟩
        · have Hno := Lib.hid hno
          clear hno
          go_wp2_with fail
          refine (hso _ H5.out).mono ?_; clear hso; rintro e w6 ⟨hQ, hb6⟩
          have L6 := Lib.hid (L5.out.later hb6)
          clear hb6 L5
          rcases hQ with ⟨hA, A6, c6, rfl, hs6⟩ | ⟨hA, A6, p6, c6, rfl⟩
          · clear hs6
            by_cases h0 : want < 0
            · go_wp2_with fail
              refine (decodes_any _).mono ?_; rintro e wz ⟨rfl, hbz⟩
              have LZ := Lib.hid (L6.out.later hbz)
              clear hbz
              go_wp2_with fail
              go_ret
              exact ⟨rfl, LZ.out.bel⟩
            · have hN : (K0 : Int) + (M0 : Int) ≤ want := by
                have := Hno.out
                rw [hA] at this
                by_cases h9 : want < (K0 : Int) + (M0 : Int)
                · exact absurd ⟨rfl, by omega, h9⟩ this
                · omega
              go_wp2_with fail
              refine (decodes_any _).mono ?_; rintro e wz ⟨rfl, hbz⟩
              have LZ := Lib.hid (L6.out.later hbz)
              clear hbz
              go_wp2_with fail
              go_ret
              exact ⟨rfl, LZ.out.bel⟩
          · go_wp2_with fail
            refine (decodes_any _).mono ?_; rintro e wz ⟨rfl, hbz⟩
            have LZ := Lib.hid (L6.out.later hbz)
            clear hbz
            go_wp2_with fail
            go_ret
            exact ⟨rfl, LZ.out.bel⟩
        · have h0 : ¬ (want < 0) := by omega
          have hN : ¬ ((K0 : Int) + (M0 : Int) ≤ want) := by omega
          have hqki : (q : Int) < (K0 : Int) := by omega
          go_wp2_with fail
          refine (hso _ H5.out).mono ?_; clear hso; rintro e w6 ⟨hQ, hb6⟩
          have L6 := Lib.hid (L5.out.later hb6)
          clear hb6 L5
          rcases hQ with ⟨_, A6, c6, rfl, hs6⟩ | ⟨hno, _⟩
          rotate_left
          · rw [hA] at hno; cases hno
          clear hs6 hA
          go_wp2_with fail
          refine (decodes_any _).mono ?_; rintro e wz ⟨rfl, hbz⟩
          have LZ := Lib.hid (L6.out.later hbz)
          clear hbz
          go_wp2_with fail
          go_ret
          exact ⟨rfl, LZ.out.bel⟩
        · obtain ⟨x, rfl⟩ : ∃ x : Nat, want = (x : Int) := ⟨want.toNat, by omega⟩
          have hxN : x < K0 + M0 := by omega
          rw [Int.toNat_natCast] at hs2
          obtain ⟨TT, hTT⟩ : ∃ TT, TT = srtN hv := ⟨_, rfl⟩
          obtain ⟨pw, hpw⟩ : ∃ pw, pw = planL K0 X x := ⟨_, rfl⟩
          rw [← hTT] at hs1 hX hso
          rw [← hpw] at hs2
          have hTl : TT.length = q := by rw [hTT, srtN_length]; exact Hq.out.symm
          have hpl : pw.length = K0 := by rw [hpw]; exact planL_length _ _ _
          have hTlt : ∀ a, a < q → TT.getD a 0 < K0 + M0 := fun a ha => by
            rw [hTT]
            exact srtN_lt hA (by rw [srtN_length, ← Hq.out]; exact ha)
          have hfin : comb K0 pw TT K0 = rowC K0 x := by rw [hpw]; exact comb_all hX
          have Hfin := Lib.hid hfin
          have HTl := Lib.hid hTl
          have Hpl := Lib.hid hpl
          have HTlt := Lib.hid hTlt
          have S5 := Lib.hid hs1
          have P5 := Lib.hid hs2
          have h0 : ¬ ((x : Int) < 0) := by omega
          have hN : ¬ ((K0 : Int) + (M0 : Int) ≤ (x : Int)) := by omega
          have hqk : ¬ ((q : Int) < (K0 : Int)) := by omega
          have hkk : ((K0 : Int) != (K0 : Int)) = false := by simp
          have hmk := fun u => make_eq (K0 : Int) K0 rfl (by omega) u
          clear hTT hpw hX hfin hTl hpl hTlt hs1 hs2
          go_wp2_with fail
          refine (hso _ H5.out).mono ?_; clear hso; rintro e w6 ⟨hQ, hb6⟩
          rcases hQ with ⟨_, A6, c6, rfl, hs6⟩ | ⟨hno, _⟩
          rotate_left
          · rw [hA] at hno; cases hno
          have T6 := Lib.hid hs6
          clear hs6 hA
          have L6 := Lib.hid (L5.out.later hb6)
          have H6 := Lib.hid (H5.out.below hb6 (Nat.le_refl _))
          have S6 := Lib.hid (S5.out.below hb6 (Nat.le_refl _))
          have P6 := Lib.hid (P5.out.below hb6 (Nat.le_refl _))
          clear hb6 L5 H5 S5 P5
          go_wp2_with fail
          obtain ⟨w7, hw7⟩ : ∃ y, y = w6.alloc (.cells (madeCells #[.int .u8 0] K0) 5) := ⟨_, rfl⟩
          have hsn := Sl.noughts w6 K0 (by unfold maxLen; omega)
          rw [comb_zero K0 pw TT, ← hw7] at hsn
          have hb7 : Below w6.heap.size w6 w7 := by rw [hw7]; exact (Below.refl _ _).alloc (Nat.le_refl _) _
          rw [← hw7]
          have N7 := Lib.hid hsn
          have Hb7 := Lib.hid hb7
          have hqf : (q < K0) = False := eq_false (by omega)
          simp only [hqf, decide_false]
          clear hw7 hsn hb7 hmk hqk h0 hN hkk hqf
          go_loopw [15, 16] (fun sv iv wr => ∃ (i : Nat) (A' : Option Addr) (c' : Nat), i ≤ K0 ∧ iv = .int .i64 (i : Int) ∧ sv = .slice A' K0 c' ∧ Sl wr 1 A' K0 c' (cells (comb K0 pw TT i)) ∧ Below w6.heap.size w6 wr) (fun _ iv _ => K0 - (intOf iv).toNat)
          case atStart => exact ⟨0, _, _, by omega, rfl, rfl, N7.out, Hb7.out⟩
          case round =>
            obtain ⟨wl, rfl⟩ : ∃ x, x = wr := ⟨_, rfl⟩
            obtain ⟨i, A', c', hi, rfl, rfl, hS, hb⟩ := hrel
            have Sq := Lib.hid hS
            have Hb := Lib.hid hb
            clear hS hb N7 Hb7
            by_cases hik : i < K0
            · have hiki : (i : Int) < (K0 : Int) := by omega
              have hiqi : (i : Int) < (q : Int) := by omega
              have hiq : i < q := by omega
              obtain ⟨b1, o1, rfl, hc1⟩ := (S6.out.below Hb.out (Nat.le_refl _)).at_ hik
              obtain ⟨b2, o2, rfl, hc2⟩ := (P6.out.below Hb.out (Nat.le_refl _)).at_ hik
              obtain ⟨b6, o6, rfl, hc6⟩ := (T6.out.below Hb.out (Nat.le_refl _)).at_ hiq
              have m1 := hc1 i _ (ncells_at _ i (by rw [List.length_take, HTl.out]; omega))
              have m2 := hc2 i _ (cells_at _ i (by rw [Hpl.out]; exact hik))
              have m6 := hc6 i _ (ncells_at _ i (by rw [HTl.out]; exact hiq))
              rw [take_getD hik] at m1
              have htN := HTlt.out i hiq
              obtain ⟨ti, hti⟩ : ∃ y, y = TT.getD i 0 := ⟨_, rfl⟩
              obtain ⟨u, hu⟩ : ∃ y, y = pw.getD i 0 := ⟨_, rfl⟩
              rw [← hti] at m1 m6 htN
              rw [← hu] at m2
              have Hti := Lib.hid hti
              have Hu := Lib.hid hu
              have hzz : ((ti : Int) != (ti : Int)) = false := by simp
              clear hc1 hc2 hc6 hti hu
              go_wp2_with fail
              go_quiet (fail)
              obtain ⟨wq, hwq⟩ : ∃ y, y = wl.drewN nq := ⟨_, rfl⟩
              have bq : Below wl.heap.size wl wq := by rw [hwq]; exact below_drewN (Below.refl _ _) nq
              have fq : Fr (fun _ => False) wl wq := Fr.of_below bq
              have M1 := Lib.hid (fq.cell_some m1 (fun h => h))
              have M2 := Lib.hid (fq.cell_some m2 (fun h => h))
              have Sq2 := Lib.hid (Sq.out.below bq (Nat.le_refl _))
              rw [← hwq]
              clear hwq fq m1 m2 m6 hzz
              go_upto_region 18 with (fail)
              have Sm0 := Lib.hid (Sq2.out.below (Below.drew (Below.refl _ _)) (Nat.le_refl _))
              refine wp_region_held_drew (S := fun w' => Fr (fun _ => False) wq w') (by kernel_rfl) (Fr.drew (Fr.refl _ _)) (fun hHeld => ?_)
              clear hHeld
              have hHeld : Fr (fun _ => False) wq wq.drew := Fr.drew (Fr.refl _ _)
              have hz_0 : wq.heap.size ≤ wq.drew.heap.size := Nat.le_refl _
              obtain ⟨v_1, hw⟩ : ∃ v_1, v_1 = wq.drew := ⟨_, rfl⟩
              rw [← hw] at hHeld hz_0 Sm0 ⊢
              clear hw
              refine wpAnyH_take (i := 0) (oi := ⟨some 126, _, _, _, _, _⟩) (v := ?vg0_2) rfl (by kernel_rfl) (by kernel_rfl) (by kernel_rfl) (fun _ _ _ h => h) (Or.inl ⟨by rfl, ?yg0_2⟩) hHeld ?rg0_2
              case yg0_2 =>
                intro wq hSw
                (try dsimp only at hSw)
                first | (go_simp; done) | (go_simp; with_reducible rfl)
              try simp only [Act.put, List.setIfInBounds_toArray, List.set_cons_zero, List.set_cons_succ]
              refine wpAnyH_take (i := 1) (oi := ⟨some 127, _, _, _, _, _⟩) (v := ?vg1_3) rfl (by kernel_rfl) (by kernel_rfl) (by kernel_rfl) (fun _ _ _ h => h) (Or.inl ⟨by rfl, ?yg1_3⟩) hHeld ?rg1_3
              case yg1_3 =>
                intro wq hSw
                (try dsimp only at hSw)
                first | (go_simp; done) | (go_simp; with_reducible rfl)
              try simp only [Act.put, List.setIfInBounds_toArray, List.set_cons_zero, List.set_cons_succ]
              refine wpAnyH_take (i := 2) (oi := ⟨some 128, _, _, _, _, _⟩) (v := ?vg2_4) rfl (by kernel_rfl) (by kernel_rfl) (by kernel_rfl) (fun _ _ _ h => h) (Or.inl ⟨by rfl, ?yg2_4⟩) hHeld ?rg2_4
              case yg2_4 =>
                intro wq hSw
                (try dsimp only at hSw)
                first | (go_simp; done) | (go_simp; with_reducible rfl)
              try simp only [Act.put, List.setIfInBounds_toArray, List.set_cons_zero, List.set_cons_succ]
              refine wpAnyH_take (i := 3) (oi := ⟨some 129, _, _, _, _, _⟩) (v := ?vg3_5) rfl (by kernel_rfl) (by kernel_rfl) (by kernel_rfl) (fun _ _ _ h => h) (Or.inl ⟨by rfl, ?yg3_5⟩) hHeld ?rg3_5
              case yg3_5 =>
                intro wq hSw
                (try dsimp only at hSw)
                have q0 := hSw.cell_some M2.out (fun h => h)
                first | (go_simp; done) | (go_simp; with_reducible rfl)
              try simp only [Act.put, List.setIfInBounds_toArray, List.set_cons_zero, List.set_cons_succ]
              refine wpAnyH_take (i := 4) (oi := ⟨some 130, _, _, _, _, _⟩) (v := ?vg4_6) rfl (by kernel_rfl) (by kernel_rfl) (by kernel_rfl) (fun _ _ _ h => h) (Or.inl ⟨by rfl, ?yg4_6⟩) hHeld ?rg4_6
              case yg4_6 =>
                intro wq hSw
                (try dsimp only at hSw)
                first | (go_simp; done) | (go_simp; with_reducible rfl)
              try simp only [Act.put, List.setIfInBounds_toArray, List.set_cons_zero, List.set_cons_succ]
              refine wpAnyH_take (i := 5) (oi := ⟨some 131, _, _, _, _, _⟩) (v := ?vg5_7) rfl (by kernel_rfl) (by kernel_rfl) (by kernel_rfl) (fun _ _ _ h => h) (Or.inl ⟨by rfl, ?yg5_7⟩) hHeld ?rg5_7
              case yg5_7 =>
                intro wq hSw
                (try dsimp only at hSw)
                first | (go_simp; done) | (go_simp; with_reducible rfl)
              try simp only [Act.put, List.setIfInBounds_toArray, List.set_cons_zero, List.set_cons_succ]
              refine wpAnyH_take (i := 6) (oi := ⟨some 132, _, _, _, _, _⟩) (v := ?vg6_8) rfl (by kernel_rfl) (by kernel_rfl) (by kernel_rfl) (fun _ _ _ h => h) (Or.inl ⟨by rfl, ?yg6_8⟩) hHeld ?rg6_8
              case yg6_8 =>
                intro wq hSw
                (try dsimp only at hSw)
                first | (go_simp; done) | (go_simp; with_reducible rfl)
              try simp only [Act.put, List.setIfInBounds_toArray, List.set_cons_zero, List.set_cons_succ]
              refine wpAnyH_take (i := 7) (oi := ⟨some 133, _, _, _, _, _⟩) (v := ?vg7_9) rfl (by kernel_rfl) (by kernel_rfl) (by kernel_rfl) (fun _ _ _ h => h) (Or.inl ⟨by rfl, ?yg7_9⟩) hHeld ?rg7_9
              case yg7_9 =>
                intro wq hSw
                (try dsimp only at hSw)
                first | (go_simp; done) | (go_simp; with_reducible rfl)
              try simp only [Act.put, List.setIfInBounds_toArray, List.set_cons_zero, List.set_cons_succ]
              refine wpAnyH_take (i := 8) (oi := ⟨some 134, _, _, _, _, _⟩) (v := ?vg8_10) rfl (by kernel_rfl) (by kernel_rfl) (by kernel_rfl) (fun _ _ _ h => h) (Or.inl ⟨by rfl, ?yg8_10⟩) hHeld ?rg8_10
              case yg8_10 =>
                intro wq hSw
                (try dsimp only at hSw)
                first | (go_simp; done) | (go_simp; with_reducible rfl)
              try simp only [Act.put, List.setIfInBounds_toArray, List.set_cons_zero, List.set_cons_succ]
              refine wpAnyH_take (i := 9) (oi := ⟨some 135, _, _, _, _, _⟩) (v := ?vg9_11) rfl (by kernel_rfl) (by kernel_rfl) (by kernel_rfl) (fun _ _ _ h => h) (Or.inl ⟨by rfl, ?yg9_11⟩) hHeld ?rg9_11
              case yg9_11 =>
                intro wq hSw
                (try dsimp only at hSw)
                have q0 := hSw.cell_some M1.out (fun h => h)
                first | (go_simp; done) | (go_simp; with_reducible rfl)
              try simp only [Act.put, List.setIfInBounds_toArray, List.set_cons_zero, List.set_cons_succ]
              refine wpAnyH_take (i := 11) (oi := ⟨some 137, _, _, _, _, _⟩) (v := ?vg11_12) rfl (by kernel_rfl) (by kernel_rfl) (by kernel_rfl) (fun _ _ _ h => h) (Or.inl ⟨by rfl, ?yg11_12⟩) hHeld ?rg11_12
              case yg11_12 =>
                intro wq hSw
                (try dsimp only at hSw)
                first | (go_simp; done) | (go_simp; with_reducible rfl)
              try simp only [Act.put, List.setIfInBounds_toArray, List.set_cons_zero, List.set_cons_succ]
              refine wpAnyH_ready (rs := [10]) (by kernel_rfl) (by simp) ?_
              refine AllReadyH.cons (o := ⟨some 136, _, _, _, _, _⟩) rfl (fun K hK => ?_) (AllReadyH.nil)
              go_simp
              have hh := rrow5_mine K0 M0 ti htN hb1 hb3 v_1
              refine hh.mono ?_; clear hh; rintro e v_13 ⟨Ar, nr, cr, rfl, hsr, hbN, hmr⟩
              have Hsr := Lib.hid hsr
              have Sm2 := Lib.hid (Sm0.out.below hbN (Nat.le_refl _))
              have hfN : Fr (fun _ => False) v_1 v_13 := Fr.of_below hbN
              clear hsr hbN hmr
              go_wp2_with fail
              have hHeld := hHeld.trans hfN
              have hz_14 := hfN.size
              refine hK.out _ _ hHeld (fun _ => ?_)
              clear hK K hfN
              try simp only [Act.put, List.setIfInBounds_toArray, List.set_cons_zero, List.set_cons_succ]
              refine wpAnyH_ready (rs := [12]) (by kernel_rfl) (by simp) ?_
              refine AllReadyH.cons (o := ⟨some 138, _, _, _, _, _⟩) rfl (fun K hK => ?_) (AllReadyH.nil)
              go_simp
              have hh := rfold_any u Ar nr cr (rowC K0 ti) A' K0 c' (comb K0 pw TT i) v_13 Hsr.out Sm2.out (by omega)
              refine hh.mono ?_; clear hh; rintro e v_15 ⟨Af, nf, cf, rfl, hsf, hbN⟩
              have hnf : nf = K0 := by
                have := hsf.len
                rw [cells_length, fld_length, comb_length] at this
                omega
              rw [hnf] at hsf
              rw [hnf]
              rw [Hu.out, Hti.out, comb_next] at hsf
              have Hsf := Lib.hid hsf
              have hfN : Fr (fun _ => False) v_13 v_15 := Fr.of_below hbN
              clear hnf nf hsf hbN Hsr Sm2
              go_wp2_with fail
              have hHeld := hHeld.trans hfN
              have hz_16 := hfN.size
              refine hK.out _ _ hHeld (fun _ => ?_)
              clear hK K hfN
              try simp only [Act.put, List.setIfInBounds_toArray, List.set_cons_zero, List.set_cons_succ]
              refine wpAnyH_take (i := 13) (oi := ⟨some 15, _, _, _, _, _⟩) (v := ?vg13_17) rfl (by kernel_rfl) (by kernel_rfl) (by kernel_rfl) (fun _ _ _ h => h) (Or.inl ⟨by rfl, ?yg13_17⟩) hHeld ?rg13_17
              case yg13_17 =>
                intro wq hSw
                (try dsimp only at hSw)
                first | (go_simp; done) | (go_simp; with_reducible rfl)
              try simp only [Act.put, List.setIfInBounds_toArray, List.set_cons_zero, List.set_cons_succ]
              refine wpAnyH_done (by kernel_rfl) ?_ _
              have HbF := Lib.hid (Hb.out.trans ((bq.trans ((hHeld.belowAll (fun _ h => h.elim)).mono bq.size)).mono Hb.out.size))
              clear hHeld
              obtain ⟨wf, hwf⟩ : ∃ x, x = v_15 := ⟨_, rfl⟩
              rw [← hwf] at HbF Hsf ⊢
              clear hwf
              go_wp2_with fail
              go_roundw
              case rel => exact ⟨i + 1, Af, cf, by omega, by go_num, rfl, Hsf.out, HbF.out⟩
              case measure => simp [intOf]; omega
            · obtain rfl : K0 = i := by omega
              have hiki : ¬ ((K0 : Int) < (K0 : Int)) := by omega
              have hsx := Sq.out
              rw [Hfin.out] at hsx
              have LX := Lib.hid (L6.out.later (Hb.out.trans ((Below.drew (Below.refl _ _)).mono Hb.out.size)))
              have SX := Lib.hid (hsx.below (Below.drew (Below.refl _ _)) (Nat.le_refl _))
              clear hsx
              go_upto_region 19 with (fail)
              refine wp_region_held_drew (S := fun w' => Fr (fun _ => False) wl.drew w') (by kernel_rfl) (Fr.refl _ _) (fun hHeld => ?_)
              clear hHeld
              refine wpAnyH_take (i := 0) (oi := ⟨some 139, _, _, _, _, _⟩) (v := ?vg0) rfl (by kernel_rfl) (by kernel_rfl) (by kernel_rfl) (fun _ _ _ h => h) (Or.inl ⟨by rfl, ?yg0⟩) (Fr.refl _ _) ?rg0
              case yg0 =>
                intro wq hSw
                (try dsimp only at hSw)
                first | (go_simp; done) | (go_simp; with_reducible rfl)
              try simp only [Act.put, List.setIfInBounds_toArray, List.set_cons_zero, List.set_cons_succ]
              refine wpAnyH_take (i := 1) (oi := ⟨some 140, _, _, _, _, _⟩) (v := ?vg1) rfl (by kernel_rfl) (by kernel_rfl) (by kernel_rfl) (fun _ _ _ h => h) (Or.inl ⟨by rfl, ?yg1⟩) (Fr.refl _ _) ?rg1
              case yg1 =>
                intro wq hSw
                (try dsimp only at hSw)
                have kk := str_of (SX.out.fr hSw (fun _ _ _ _ h => h))
                first | (go_simp; done) | (go_simp; with_reducible rfl)
              try simp only [Act.put, List.setIfInBounds_toArray, List.set_cons_zero, List.set_cons_succ]
              refine wpAnyH_take (i := 2) (oi := ⟨some 141, _, _, _, _, _⟩) (v := ?vg2) rfl (by kernel_rfl) (by kernel_rfl) (by kernel_rfl) (fun _ _ _ h => h) (Or.inl ⟨by rfl, ?yg2⟩) (Fr.refl _ _) ?rg2
              case yg2 =>
                intro wq hSw
                (try dsimp only at hSw)
                first | (go_simp; done) | (go_simp; with_reducible rfl)
              try simp only [Act.put, List.setIfInBounds_toArray, List.set_cons_zero, List.set_cons_succ]
              refine wpAnyH_take (i := 3) (oi := ⟨some 142, _, _, _, _, _⟩) (v := ?vg3) rfl (by kernel_rfl) (by kernel_rfl) (by kernel_rfl) (fun _ _ _ h => h) (Or.inl ⟨by rfl, ?yg3⟩) (Fr.refl _ _) ?rg3
              case yg3 =>
                intro wq hSw
                (try dsimp only at hSw)
                first | (go_simp; done) | (go_simp; with_reducible rfl)
              try simp only [Act.put, List.setIfInBounds_toArray, List.set_cons_zero, List.set_cons_succ]
              refine wpAnyH_take (i := 4) (oi := ⟨some 143, _, _, _, _, _⟩) (v := ?vg4) rfl (by kernel_rfl) (by kernel_rfl) (by kernel_rfl) (fun _ _ _ h => h) (Or.inl ⟨by rfl, ?yg4⟩) (Fr.refl _ _) ?rg4
              case yg4 =>
                intro wq hSw
                (try dsimp only at hSw)
                first | (go_simp; done) | (go_simp; with_reducible rfl)
              try simp only [Act.put, List.setIfInBounds_toArray, List.set_cons_zero, List.set_cons_succ]
              refine wpAnyH_ready (rs := [5]) (by kernel_rfl) (by simp) ?_
              refine AllReadyH.cons (o := ⟨some 144, _, _, _, _, _⟩) rfl (fun K hK => ?_) AllReadyH.nil
              go_simp
              have hh := rrow5_mine K0 M0 x hxN hb1 hb3 wl.drew
              refine hh.mono ?_; clear hh; rintro e v1 ⟨Ar, nr, cr, rfl, hsr, hbN, hmr⟩
              have Hsr := Lib.hid hsr
              have LY := Lib.hid (LX.out.later hbN)
              have hfr : Fr (fun _ => False) wl.drew v1 := Fr.of_below hbN
              clear hsr hbN hmr
              go_wp2_with fail
              refine hK.out _ _ hfr (fun hHeld => ?_)
              clear hK K hHeld
              try simp only [Act.put, List.setIfInBounds_toArray, List.set_cons_zero, List.set_cons_succ]
              refine wpAnyH_re (S' := fun w' => Fr (fun _ => False) v1 w') (fun w' h => hfr.trans h) ?_
              clear hfr
              refine wpAnyH_take (i := 6) (oi := ⟨some 145, _, _, _, _, _⟩) (v := ?vg6) rfl (by kernel_rfl) (by kernel_rfl) (by kernel_rfl) (fun _ _ _ h => h) (Or.inl ⟨by rfl, ?yg6⟩) (Fr.refl _ _) ?rg6
              case yg6 =>
                intro wq hSw
                (try dsimp only at hSw)
                have kk := str_of (Hsr.out.fr hSw (fun _ _ _ _ h => h))
                first | (go_simp; done) | (go_simp; with_reducible rfl)
              try simp only [Act.put, List.setIfInBounds_toArray, List.set_cons_zero, List.set_cons_succ]
              refine wpAnyH_take (i := 7) (oi := ⟨some 146, _, _, _, _, _⟩) (v := ?vg7) rfl (by kernel_rfl) (by kernel_rfl) (by kernel_rfl) (fun _ _ _ h => h) (Or.inl ⟨by rfl, ?yg7⟩) (Fr.refl _ _) ?rg7
              case yg7 =>
                intro wq hSw
                (try dsimp only at hSw)
                first | (go_simp; done) | (go_simp; with_reducible rfl)
              try simp only [Act.put, List.setIfInBounds_toArray, List.set_cons_zero, List.set_cons_succ]
              refine wpAnyH_take (i := 8) (oi := ⟨some 147, _, _, _, _, _⟩) (v := ?vg8) rfl (by kernel_rfl) (by kernel_rfl) (by kernel_rfl) (fun _ _ _ h => h) (Or.inl ⟨by rfl, ?yg8⟩) (Fr.refl _ _) ?rg8
              case yg8 =>
                intro wq hSw
                (try dsimp only at hSw)
                first | (go_simp; done) | (go_simp; with_reducible rfl)
              try simp only [Act.put, List.setIfInBounds_toArray, List.set_cons_zero, List.set_cons_succ]
              refine wpAnyH_ready (rs := [9]) (by kernel_rfl) (by simp) ?_
              refine AllReadyH.cons (o := ⟨some 148, _, _, _, _, _⟩) rfl (fun K hK => ?_) AllReadyH.nil
              go_simp
              have hh := decodes_any v1
              refine hh.mono ?_; clear hh; rintro e v2 ⟨rfl, hbN⟩
              have LZ := Lib.hid (LY.out.later hbN)
              have hfr : Fr (fun _ => False) v1 v2 := Fr.of_below hbN
              clear hbN
              go_wp2_with fail
              refine hK.out _ _ hfr (fun hHeld => ?_)
              clear hK K hHeld
              try simp only [Act.put, List.setIfInBounds_toArray, List.set_cons_zero, List.set_cons_succ]
              refine wpAnyH_re (S' := fun w' => Fr (fun _ => False) v2 w') (fun w' h => hfr.trans h) ?_
              clear hfr
              refine wpAnyH_take (i := 10) (oi := ⟨some 149, _, _, _, _, _⟩) (v := ?vg10) rfl (by kernel_rfl) (by kernel_rfl) (by kernel_rfl) (fun _ _ _ h => h) (Or.inl ⟨by rfl, ?yg10⟩) (Fr.refl _ _) ?rg10
              case yg10 =>
                intro wq hSw
                (try dsimp only at hSw)
                first | (go_simp; done) | (go_simp; with_reducible rfl)
              try simp only [Act.put, List.setIfInBounds_toArray, List.set_cons_zero, List.set_cons_succ]
              refine wpAnyH_take (i := 11) (oi := ⟨some 8, _, _, _, _, _⟩) (v := ?vg11) rfl (by kernel_rfl) (by kernel_rfl) (by kernel_rfl) (fun _ _ _ h => h) (Or.inl ⟨by rfl, ?yg11⟩) (Fr.refl _ _) ?rg11
              case yg11 =>
                intro wq hSw
                (try dsimp only at hSw)
                first | (go_simp; done) | (go_simp; with_reducible rfl)
              try simp only [Act.put, List.setIfInBounds_toArray, List.set_cons_zero, List.set_cons_succ]
              refine wpAnyH_done (by kernel_rfl) ?_ _
              go_wp2_with fail
              go_ret
              exact ⟨rfl, LZ.out.bel⟩
  · have hmF := mayB_f hmay
    have hrm := fun u => rmay_any k m hk hm u
    rw [hmF] at hrm
    have HmF := Lib.hid hmF
    clear hmay hmF
    go_enter Tryz.func4, Tryz.ntmps4
    go_wp2_with fail
    refine (new_any _).mono ?_; rintro e w1 ⟨rfl, hf, hb⟩
    obtain ⟨F, hF⟩ : ∃ F, F = w.heap.size + 1 := ⟨_, rfl⟩
    obtain ⟨T, hT⟩ : ∃ T, T = w.heap.size := ⟨_, rfl⟩
    rw [← hF] at hf ⊢
    rw [← hT] at hf
    have HT := Lib.hid (show w.heap.size ≤ T by omega)
    clear hF hT
    go_wp2_with fail
    refine (cnew_no F T k m hk hm HmF.out _ hf).mono ?_; rintro e w2 ⟨rfl, hf2, hr⟩
    have L2 := Lib.hid (Lw.of hb HT.out hr hf2)
    clear hf hb hf2 hr
    go_wp2_with fail
    refine (hrm _).mono ?_; clear hrm; rintro e w3 ⟨rfl, rfl⟩
    go_wp2_with fail
    refine (decodes_any _).mono ?_; rintro e wz ⟨rfl, hbz⟩
    have LZ := Lib.hid (L2.out.later hbz)
    clear hbz
    go_wp2_with fail
    go_ret
    exact ⟨rfl, LZ.out.bel⟩
end Go.Proofs.YtgoomiimlfdcmaaGreat
