/-
  DecodeOne returns true, whatever its arguments. No condition.
-/
import Derived.Test.YtgoomiimlfdcmaaGreatDmb
import Derived.Test.YtgoomiimlfdcmaaGreatCbd
namespace Go.Proofs.YtgoomiimlfdcmaaGreat
open Go.RowKit Go.Proofs
set_option linter.unusedVariables false

/-- What comes back of just k rows is what the coder makes of the data. -/
theorem one_all {k m n W : Nat} {X : Mx} {rs : List (List UInt8)} (h1 : 1 ≤ k) (hX : Alike k k (mm k X (facM k ((thereL rs n).take k))) one) (hk : (thereL rs n).length = k) (hl : rs.length = n)
    (hw : ∀ a, a < k → (rs.getD (((thereL rs n).take k).getD a 0) []).length = W) : fillL rs (shard k (dataL k W (solD k X rs ((thereL rs n).take k)))) n = allL k (dataL k W (solD k X rs ((thereL rs n).take k))) n := by
  obtain ⟨D, hD⟩ : ∃ D, D = dataL k W (solD k X rs ((thereL rs n).take k)) := ⟨_, rfl⟩
  rw [← hD]
  apply List.ext_getElem?
  intro i
  by_cases hi : i < n
  · have e2 : (allL k D n)[i]? = some (shard k D i) := by simp [allL, hi]
    rw [fillL_get _ _ _ _ (by omega), e2]
    by_cases hz : (rs.getD i []).length = 0
    · rw [if_pos ⟨hi, hz⟩]
    · rw [if_neg (fun h => hz h.2)]
      obtain ⟨a, ha, hai⟩ := there_at rs hi hz
      have hak : a < k := by omega
      have ht : ((thereL rs n).take k).getD a 0 = i := by rw [take_getD hak, hai]
      have hla := hw a hak
      rw [ht] at hla
      have hs := sol_of (W := W) (rs := rs) hX
      congr 1
      rw [hD, shard_dataL _ _ _ h1]
      apply List.ext_getElem
      · rw [hla, rowL_length]
      · intro p h2 h3
        have e := hs a hak p (by omega)
        have e1 : eqM k rs ((thereL rs n).take k) a (k + p) = (rs.getD i [])[p] := by
          rw [eqM, if_neg (by omega), ht, show k + p - k = p from by omega, List.getD_eq_getElem?_getD, List.getElem?_eq_getElem h2, Option.getD_some]
        have e3 : (xs k fun b => gm (eqM k rs ((thereL rs n).take k) a b) (solD k X rs ((thereL rs n).take k) b p)) = xs k fun b => gm (facB k i b) (solD k X rs ((thereL rs n).take k) b p) := xs_congr k fun b hb => by rw [eqM, if_pos hb, ht]
        have e4 := rowL_get W (fun p => xs k fun j => gm (facB k i j) (solD k X rs ((thereL rs n).take k) j p)) p (by omega)
        rw [List.getElem?_eq_getElem h3] at e4
        injection e4 with e4
        rw [e4, ← e1, ← e, e3]
  · rw [List.getElem?_eq_none (by rw [fillL_length]; omega), List.getElem?_eq_none (by rw [allL_length]; omega)]
theorem allL_head (k m : Nat) (ds : List (List UInt8)) (hl : ds.length = k) (hlv : levelB ds = true) : (allL k ds (k + m)).take k = ds := by
  rw [allL_eq k m ds hl hlv, List.take_left' hl]
theorem evenB_of {ds : List (List UInt8)} {k : Nat} (hl : ds.length = k) (hlv : levelB ds = true) : evenB ds (k : Int) = true := by
  rw [evenB, hlv, hl, decide_eq_true rfl]; rfl

set_option maxRecDepth 100000 in
set_option maxHeartbeats 3200000 in
theorem decodeOne_walk (k m : Int) (A : Option Addr) (c : Nat) (rs : List (List UInt8)) (w : World) (hk : -9223372036854775808 ≤ k ∧ k < 9223372036854775808) (hm : -9223372036854775808 ≤ m ∧ m < 9223372036854775808) (hg : Gr w A rs.length c rs) :
    Calls Tryz.prog 7 #[.int .i64 k, .int .i64 m, .slice A rs.length c] w (SaysTrue w) := by
  have hlim := hg.lim
  unfold maxLen at hlim
  obtain ⟨n, hn⟩ : ∃ n, n = rs.length := ⟨_, rfl⟩
  rw [← hn] at hlim hg ⊢
  have Hg := Lib.hid hg; clear hg
  have Hn := Lib.hid hn; clear hn
  by_cases hmay : 1 ≤ k ∧ 1 ≤ m ∧ k + m ≤ 255
  · obtain ⟨K0, hK0⟩ : ∃ x : Nat, k = (x : Int) := ⟨k.toNat, by omega⟩
    obtain ⟨M0, hM0⟩ : ∃ x : Nat, m = (x : Int) := ⟨m.toNat, by omega⟩
    subst hK0; subst hM0
    have hb1 : 1 ≤ K0 := by omega
    have hb2 : 1 ≤ M0 := by omega
    have hb3 : K0 + M0 ≤ 255 := by omega
    have hkw : IntKind.i64.wrap ((K0 : Int) + (M0 : Int)) = (K0 : Int) + (M0 : Int) := by rw [IntKind.wrap_i64]; omega
    clear hmay hk hm
    by_cases h24 : (16 : Int) < (K0 : Int) + (M0 : Int)
    · go_enter Tryz.func7, Tryz.ntmps7
      go_wp2_with fail
      refine (new_any _).mono ?_; rintro e w1 ⟨rfl, hf, hb⟩
      obtain ⟨F, hF⟩ : ∃ F, F = w.heap.size + 1 := ⟨_, rfl⟩
      obtain ⟨T, hT⟩ : ∃ T, T = w.heap.size := ⟨_, rfl⟩
      rw [← hF] at hf ⊢
      rw [← hT] at hf
      have HT := Lib.hid (show w.heap.size ≤ T by omega)
      clear hF hT
      go_wp2_with fail
      refine (cnew_at F T (K0 : Int) (M0 : Int) K0 M0 rfl rfl ⟨hb1, hb2, hb3⟩ _ hf).mono ?_; rintro e w2 ⟨C, rfl, hC, hr⟩
      have L2 := Lib.hid (Lw.of hb HT.out hr hC.fld)
      have C2 := Lib.hid hC
      clear hf hb hC hr
      go_wp2_with fail
      refine (decodes_any _).mono ?_; rintro e wz ⟨rfl, hbz⟩
      have LZ := Lib.hid (L2.out.later hbz)
      clear hbz
      go_wp2_with fail
      go_ret
      exact ⟨rfl, LZ.out.bel⟩
    · go_enter Tryz.func7, Tryz.ntmps7
      go_wp2_with fail
      refine (new_any _).mono ?_; rintro e w1 ⟨rfl, hf, hb⟩
      obtain ⟨F, hF⟩ : ∃ F, F = w.heap.size + 1 := ⟨_, rfl⟩
      obtain ⟨T, hT⟩ : ∃ T, T = w.heap.size := ⟨_, rfl⟩
      rw [← hF] at hf ⊢
      rw [← hT] at hf
      have HT := Lib.hid (show w.heap.size ≤ T by omega)
      clear hF hT
      go_wp2_with fail
      refine (cnew_at F T (K0 : Int) (M0 : Int) K0 M0 rfl rfl ⟨hb1, hb2, hb3⟩ _ hf).mono ?_; rintro e w2 ⟨C, rfl, hC, hr⟩
      have L2 := Lib.hid (Lw.of hb HT.out hr hC.fld)
      have C2 := Lib.hid hC
      clear hf hb hC hr
      go_wp2_with fail
      have G2 := Lib.hid (Hg.out.later L2.out.bel)
      refine (few5_any 0 A n c rs _ G2.out).mono ?_; rintro e w4 ⟨rfl, bf, rfl, hfew⟩
      cases bf
      · clear hfew
        go_wp2_with fail
        refine (decodes_any _).mono ?_; rintro e wz ⟨rfl, hbz⟩
        have LZ := Lib.hid (L2.out.later hbz)
        clear hbz
        go_wp2_with fail
        go_ret
        exact ⟨rfl, LZ.out.bel⟩
      · obtain ⟨hn260, hrows⟩ := hfew rfl
        have HW := Lib.hid (show ∀ r ∈ rs, r.length ≤ 1048576 from fun r hr => Nat.le_trans (hrows r hr) (by decide))
        have hn1 : n ≤ 1048576 := by omega
        clear hfew hrows
        by_cases hx0 : rightX K0 M0 rs = 0
        · have Hx0 := Lib.hid hx0
          clear hx0
          go_wp2_with fail
          refine (dall_ok C K0 M0 F T A n c rs _ C2.out G2.out HW.out hn1).mono ?_; rintro e w5 ⟨hR, hb5⟩
          rcases hR with ⟨hno, _⟩ | ⟨_, A5, c5, X, hX, rfl, hP⟩
          · exact absurd Hx0.out hno
          have P5 := Lib.hid hP
          have HX := Lib.hid hX
          clear hP hX
          have L5 := Lib.hid (L2.out.later hb5)
          have C5 := Lib.hid (C2.out.later hb5)
          have G5 := Lib.hid (G2.out.later hb5)
          clear hb5 L2 C2 G2
          go_wp2_with fail
          refine (there6_any A n c rs _ G5.out hn1).mono ?_; rintro e w6 ⟨⟨B, q, d, rfl, hsB⟩, hb6⟩
          have S6 := Lib.hid hsB
          have hqd : (thereL rs n).length = q := by
            have := hsB.len
            rw [ncells_length] at this
            omega
          obtain ⟨hnk, hkq⟩ := right_few Hx0.out Hn.out.symm
          rw [hqd] at hkq
          have Hqd := Lib.hid hqd
          have Hnk := Lib.hid hnk
          have hqm : q ≤ maxLen := hsB.lim
          unfold maxLen at hqm
          clear hsB hqd hnk
          have L6 := Lib.hid (L5.out.later hb6)
          have C6 := Lib.hid (C5.out.later hb6)
          have G6 := Lib.hid (G5.out.later hb6)
          have P6 := Lib.hid (P5.out.later hb6)
          clear hb6 L5 C5 G5 P5
          by_cases hqk : q = K0
          rotate_left
          · have hqb : ((q : Int) != (K0 : Int)) = true := by simp; omega
            have hqi : (K0 : Int) < (q : Int) := by omega
            clear hqk
            go_wp2_with fail
            refine (decodes_any _).mono ?_; rintro e wz ⟨rfl, hbz⟩
            have LZ := Lib.hid (L6.out.later hbz)
            clear hbz
            go_wp2_with fail
            go_ret
            exact ⟨rfl, LZ.out.bel⟩
          have hqb : ((q : Int) != (K0 : Int)) = false := by simp; omega
          have Hqk := Lib.hid hqk
          obtain ⟨W, hWd⟩ : ∃ W, W = (rs.getD ((thereL rs n).getD 0 0) []).length := ⟨_, rfl⟩
          obtain ⟨D, hD⟩ : ∃ D, D = dataL K0 W (solD K0 X rs ((thereL rs n).take K0)) := ⟨_, rfl⟩
          have hwid := right_wid Hx0.out Hn.out.symm
          rw [← hWd] at hwid
          have hone := one_all (W := W) (m := M0) hb1 HX.out (by rw [Hqd.out]; exact hqk) Hn.out.symm hwid
          have hDl : D.length = K0 := by rw [hD]; exact dataL_length _ _ _
          have hDv : levelB D = true := by rw [hD]; exact dataL_level _ _ _
          have hWb : W ≤ 1048576 := by
            rw [hWd]
            exact HW.out _ (List.mem_of_getElem? (G6.out.get (thereL_lt (by rw [Hqd.out]; omega))))
          have hDW : ∀ r ∈ D, r.length ≤ 1048576 := fun r hr => by
            rw [hD] at hr
            obtain ⟨j, _, rfl⟩ := List.mem_map.1 hr
            rw [rowL_length]
            exact hWb
          have hP := P6.out
          rw [← hWd, ← hD] at hP
          rw [← hD, Hnk.out] at hone
          have hat : ∀ i, i < n → (rs.getD i []).length ≠ 0 → (fillL rs (shard K0 D) (K0 + M0))[i]? = some (rs.getD i []) := fun i hi hz => by rw [fillL_get _ _ _ _ (by rw [← Hn.out]; exact hi), if_neg (fun h => hz h.2)]
          have hcap := hP.capLe
          unfold maxLen at hcap
          have hG8 : Gr w6 A5 K0 c5 D := by
            have := hP.take (show K0 ≤ K0 + M0 by omega)
            rwa [hone, allL_head K0 M0 D hDl hDv] at this
          have G8 := Lib.hid hG8
          have HP := Lib.hid hP
          have Hone := Lib.hid hone
          have Hat := Lib.hid hat
          have HDl := Lib.hid hDl
          have HDv := Lib.hid hDv
          have HDW := Lib.hid hDW
          have hkc : K0 ≤ c5 := by omega
          have hkci : (K0 : Int) ≤ (c5 : Int) := by omega
          clear hqk hWd hD hwid hone hDl hDv hWb hDW hP hat hG8 P6
          go_wp2_with fail
          refine (all_any C K0 M0 F T A5 K0 c5 D _ C6.out G8.out HDW.out).mono ?_; rintro e w7 ⟨hb7, hR⟩
          rcases hR with ⟨hno, _⟩ | ⟨_, A7, c7, rfl, hU⟩
          · rw [evenB_of HDl.out HDv.out] at hno; cases hno
          have hPU : Gr w7 A5 (K0 + M0) c5 (allL K0 D (K0 + M0)) := by rw [← Hone.out]; exact HP.out.later hb7
          rw [← allL_eq K0 M0 D HDl.out HDv.out] at hU
          have P7 := Lib.hid hPU
          have Q7 := Lib.hid (HP.out.later hb7)
          have U7 := Lib.hid hU
          clear hU hPU
          have L7 := Lib.hid (L6.out.later hb7)
          have C7 := Lib.hid (C6.out.later hb7)
          have G7 := Lib.hid (G6.out.later hb7)
          have S7 := Lib.hid (S6.out.below hb7 (Nat.le_refl _))
          clear hb7 L6 C6 G6 S6
          clear G8 HP
          go_wp2_with fail
          refine (rsame5_any _ _ _ _ _ _ _ _ _ U7.out P7.out).mono ?_; rintro e w8 ⟨rfl, hb8⟩
          rw [decide_eq_true rfl]
          have Q8 := Lib.hid (Q7.out.later hb8)
          have L8 := Lib.hid (L7.out.later hb8)
          have C8 := Lib.hid (C7.out.later hb8)
          have G8 := Lib.hid (G7.out.later hb8)
          have S8 := Lib.hid (S7.out.below hb8 (Nat.le_refl _))
          clear hb8 L7 C7 G7 S7
          clear P7 Q7 U7
          go_wp2_with fail
          go_loopw [13] (fun iv wr => ∃ i : Nat, i ≤ q ∧ iv = .int .i64 (i : Int) ∧ Below w8.heap.size w8 wr) (fun iv _ => q - (intOf iv).toNat)
          case atStart => exact ⟨0, by omega, rfl, Below.refl _ _⟩
          case round =>
            obtain ⟨wl, rfl⟩ : ∃ x, x = wr := ⟨_, rfl⟩
            obtain ⟨i, hi, rfl, hb⟩ := hrel
            have Hb := Lib.hid hb
            clear hb
            by_cases hlt : i < q
            · have hil : i < (thereL rs n).length := by rw [Hqd.out]; exact hlt
              have hxn := thereL_lt (rs := rs) (j := n) hil
              have hpos := thereL_pos (rs := rs) (j := n) hil
              obtain ⟨gb, go, rfl, hcn⟩ := (S8.out.below Hb.out (Nat.le_refl _)).at_ hlt
              have m0 := hcn i _ (ncells_get _ i hil)
              rw [show (thereL rs n)[i] = (thereL rs n).getD i 0 from by simp [hil]] at m0
              obtain ⟨x, hx⟩ : ∃ x, x = (thereL rs n).getD i 0 := ⟨_, rfl⟩
              rw [← hx] at m0 hxn hpos
              obtain ⟨b2, o2, e2, hcr2⟩ := (G8.out.later Hb.out).at_ (by omega)
              obtain ⟨Ar2, cr2, q2, r2⟩ := hcr2 x _ (G8.out.get hxn)
              obtain ⟨b1, o1, e1, hcr1⟩ := (Q8.out.later Hb.out).at_ (by omega)
              obtain ⟨Ar1, cr1, q1, r1⟩ := hcr1 x _ (Hat.out x hxn (by omega))
              obtain ⟨r, hr⟩ : ∃ r, r = rs.getD x [] := ⟨_, rfl⟩
              rw [← hr] at q1 r1 q2 r2
              obtain ⟨Lr, hLr⟩ : ∃ L, L = r.length := ⟨_, rfl⟩
              rw [← hLr] at q1 r1 q2 r2
              have M0c := Lib.hid m0
              have Q1 := Lib.hid q1
              have Q2 := Lib.hid q2
              have R1 := Lib.hid r1
              have R2 := Lib.hid r2
              have hxi1 : (x : Int) < (n : Int) := by omega
              have hxi2 : (x : Int) < (K0 : Int) + (M0 : Int) := by have := Hnk.out; omega
              have hxkm : x < K0 + M0 := by have := Hnk.out; omega
              have hiqi : (i : Int) < (q : Int) := by omega
              have hsz := G8.out.capLe
              subst e1; subst e2
              clear hcn m0 hx hcr1 hcr2 q1 q2 r1 r2 hr hLr hpos hil
              go_upto_region 14 with (fail)
              refine wp_region_held_drew (S := fun w' => Fr (fun _ => False) wl w') (by kernel_rfl) (Fr.drew (Fr.refl _ _)) (fun hHeld => ?_)
              clear hHeld
              have hHeld : Fr (fun _ => False) wl wl.drew := Fr.drew (Fr.refl _ _)
              have hz_0 : wl.heap.size ≤ wl.drew.heap.size := Nat.le_refl _
              obtain ⟨v_1, hw⟩ : ∃ v_1, v_1 = wl.drew := ⟨_, rfl⟩
              rw [← hw] at hHeld hz_0  ⊢
              clear hw
              refine wpAnyH_take (i := 0) (oi := ⟨some 94, _, _, _, _, _⟩) (v := ?vg0_2) rfl (by kernel_rfl) (by kernel_rfl) (by kernel_rfl) (fun _ _ _ h => h) (Or.inl ⟨by rfl, ?yg0_2⟩) hHeld ?rg0_2
              case yg0_2 =>
                intro wq hSw
                (try dsimp only at hSw)
                first | (go_simp; done) | (go_simp; with_reducible rfl)
              try simp only [Act.put, List.setIfInBounds_toArray, List.set_cons_zero, List.set_cons_succ]
              refine wpAnyH_take (i := 1) (oi := ⟨some 95, _, _, _, _, _⟩) (v := ?vg1_3) rfl (by kernel_rfl) (by kernel_rfl) (by kernel_rfl) (fun _ _ _ h => h) (Or.inl ⟨by rfl, ?yg1_3⟩) hHeld ?rg1_3
              case yg1_3 =>
                intro wq hSw
                (try dsimp only at hSw)
                first | (go_simp; done) | (go_simp; with_reducible rfl)
              try simp only [Act.put, List.setIfInBounds_toArray, List.set_cons_zero, List.set_cons_succ]
              refine wpAnyH_take (i := 2) (oi := ⟨some 96, _, _, _, _, _⟩) (v := ?vg2_4) rfl (by kernel_rfl) (by kernel_rfl) (by kernel_rfl) (fun _ _ _ h => h) (Or.inl ⟨by rfl, ?yg2_4⟩) hHeld ?rg2_4
              case yg2_4 =>
                intro wq hSw
                (try dsimp only at hSw)
                first | (go_simp; done) | (go_simp; with_reducible rfl)
              try simp only [Act.put, List.setIfInBounds_toArray, List.set_cons_zero, List.set_cons_succ]
              refine wpAnyH_take (i := 3) (oi := ⟨some 97, _, _, _, _, _⟩) (v := ?vg3_5) rfl (by kernel_rfl) (by kernel_rfl) (by kernel_rfl) (fun _ _ _ h => h) (Or.inl ⟨by rfl, ?yg3_5⟩) hHeld ?rg3_5
              case yg3_5 =>
                intro wq hSw
                (try dsimp only at hSw)
                first | (go_simp; done) | (go_simp; with_reducible rfl)
              try simp only [Act.put, List.setIfInBounds_toArray, List.set_cons_zero, List.set_cons_succ]
              refine wpAnyH_take (i := 4) (oi := ⟨some 98, _, _, _, _, _⟩) (v := ?vg4_6) rfl (by kernel_rfl) (by kernel_rfl) (by kernel_rfl) (fun _ _ _ h => h) (Or.inl ⟨by rfl, ?yg4_6⟩) hHeld ?rg4_6
              case yg4_6 =>
                intro wq hSw
                (try dsimp only at hSw)
                have q0 := hSw.cell_some M0c.out (fun h => h)
                first | (go_simp; done) | (go_simp; with_reducible rfl)
              try simp only [Act.put, List.setIfInBounds_toArray, List.set_cons_zero, List.set_cons_succ]
              refine wpAnyH_take (i := 5) (oi := ⟨some 99, _, _, _, _, _⟩) (v := ?vg5_7) rfl (by kernel_rfl) (by kernel_rfl) (by kernel_rfl) (fun _ _ _ h => h) (Or.inl ⟨by rfl, ?yg5_7⟩) hHeld ?rg5_7
              case yg5_7 =>
                intro wq hSw
                (try dsimp only at hSw)
                first | (go_simp; done) | (go_simp; with_reducible rfl)
              try simp only [Act.put, List.setIfInBounds_toArray, List.set_cons_zero, List.set_cons_succ]
              refine wpAnyH_take (i := 6) (oi := ⟨some 100, _, _, _, _, _⟩) (v := ?vg6_8) rfl (by kernel_rfl) (by kernel_rfl) (by kernel_rfl) (fun _ _ _ h => h) (Or.inl ⟨by rfl, ?yg6_8⟩) hHeld ?rg6_8
              case yg6_8 =>
                intro wq hSw
                (try dsimp only at hSw)
                have q0 := hSw.cell_some Q1.out (fun h => h)
                first | (go_simp; done) | (go_simp; with_reducible rfl)
              try simp only [Act.put, List.setIfInBounds_toArray, List.set_cons_zero, List.set_cons_succ]
              refine wpAnyH_take (i := 7) (oi := ⟨some 101, _, _, _, _, _⟩) (v := ?vg7_9) rfl (by kernel_rfl) (by kernel_rfl) (by kernel_rfl) (fun _ _ _ h => h) (Or.inl ⟨by rfl, ?yg7_9⟩) hHeld ?rg7_9
              case yg7_9 =>
                intro wq hSw
                (try dsimp only at hSw)
                have kk := str_of (R1.out.fr hSw (fun _ _ _ _ h => h))
                first | (go_simp; done) | (go_simp; with_reducible rfl)
              try simp only [Act.put, List.setIfInBounds_toArray, List.set_cons_zero, List.set_cons_succ]
              refine wpAnyH_take (i := 8) (oi := ⟨some 102, _, _, _, _, _⟩) (v := ?vg8_10) rfl (by kernel_rfl) (by kernel_rfl) (by kernel_rfl) (fun _ _ _ h => h) (Or.inl ⟨by rfl, ?yg8_10⟩) hHeld ?rg8_10
              case yg8_10 =>
                intro wq hSw
                (try dsimp only at hSw)
                first | (go_simp; done) | (go_simp; with_reducible rfl)
              try simp only [Act.put, List.setIfInBounds_toArray, List.set_cons_zero, List.set_cons_succ]
              refine wpAnyH_take (i := 9) (oi := ⟨some 103, _, _, _, _, _⟩) (v := ?vg9_11) rfl (by kernel_rfl) (by kernel_rfl) (by kernel_rfl) (fun _ _ _ h => h) (Or.inl ⟨by rfl, ?yg9_11⟩) hHeld ?rg9_11
              case yg9_11 =>
                intro wq hSw
                (try dsimp only at hSw)
                first | (go_simp; done) | (go_simp; with_reducible rfl)
              try simp only [Act.put, List.setIfInBounds_toArray, List.set_cons_zero, List.set_cons_succ]
              refine wpAnyH_take (i := 10) (oi := ⟨some 104, _, _, _, _, _⟩) (v := ?vg10_12) rfl (by kernel_rfl) (by kernel_rfl) (by kernel_rfl) (fun _ _ _ h => h) (Or.inl ⟨by rfl, ?yg10_12⟩) hHeld ?rg10_12
              case yg10_12 =>
                intro wq hSw
                (try dsimp only at hSw)
                first | (go_simp; done) | (go_simp; with_reducible rfl)
              try simp only [Act.put, List.setIfInBounds_toArray, List.set_cons_zero, List.set_cons_succ]
              refine wpAnyH_take (i := 11) (oi := ⟨some 105, _, _, _, _, _⟩) (v := ?vg11_13) rfl (by kernel_rfl) (by kernel_rfl) (by kernel_rfl) (fun _ _ _ h => h) (Or.inl ⟨by rfl, ?yg11_13⟩) hHeld ?rg11_13
              case yg11_13 =>
                intro wq hSw
                (try dsimp only at hSw)
                first | (go_simp; done) | (go_simp; with_reducible rfl)
              try simp only [Act.put, List.setIfInBounds_toArray, List.set_cons_zero, List.set_cons_succ]
              refine wpAnyH_take (i := 12) (oi := ⟨some 106, _, _, _, _, _⟩) (v := ?vg12_14) rfl (by kernel_rfl) (by kernel_rfl) (by kernel_rfl) (fun _ _ _ h => h) (Or.inl ⟨by rfl, ?yg12_14⟩) hHeld ?rg12_14
              case yg12_14 =>
                intro wq hSw
                (try dsimp only at hSw)
                have q0 := hSw.cell_some M0c.out (fun h => h)
                first | (go_simp; done) | (go_simp; with_reducible rfl)
              try simp only [Act.put, List.setIfInBounds_toArray, List.set_cons_zero, List.set_cons_succ]
              refine wpAnyH_take (i := 13) (oi := ⟨some 107, _, _, _, _, _⟩) (v := ?vg13_15) rfl (by kernel_rfl) (by kernel_rfl) (by kernel_rfl) (fun _ _ _ h => h) (Or.inl ⟨by rfl, ?yg13_15⟩) hHeld ?rg13_15
              case yg13_15 =>
                intro wq hSw
                (try dsimp only at hSw)
                first | (go_simp; done) | (go_simp; with_reducible rfl)
              try simp only [Act.put, List.setIfInBounds_toArray, List.set_cons_zero, List.set_cons_succ]
              refine wpAnyH_take (i := 14) (oi := ⟨some 108, _, _, _, _, _⟩) (v := ?vg14_16) rfl (by kernel_rfl) (by kernel_rfl) (by kernel_rfl) (fun _ _ _ h => h) (Or.inl ⟨by rfl, ?yg14_16⟩) hHeld ?rg14_16
              case yg14_16 =>
                intro wq hSw
                (try dsimp only at hSw)
                have q0 := hSw.cell_some Q2.out (fun h => h)
                first | (go_simp; done) | (go_simp; with_reducible rfl)
              try simp only [Act.put, List.setIfInBounds_toArray, List.set_cons_zero, List.set_cons_succ]
              refine wpAnyH_take (i := 15) (oi := ⟨some 109, _, _, _, _, _⟩) (v := ?vg15_17) rfl (by kernel_rfl) (by kernel_rfl) (by kernel_rfl) (fun _ _ _ h => h) (Or.inl ⟨by rfl, ?yg15_17⟩) hHeld ?rg15_17
              case yg15_17 =>
                intro wq hSw
                (try dsimp only at hSw)
                have kk := str_of (R2.out.fr hSw (fun _ _ _ _ h => h))
                first | (go_simp; done) | (go_simp; with_reducible rfl)
              try simp only [Act.put, List.setIfInBounds_toArray, List.set_cons_zero, List.set_cons_succ]
              refine wpAnyH_take (i := 16) (oi := ⟨some 110, _, _, _, _, _⟩) (v := ?vg16_18) rfl (by kernel_rfl) (by kernel_rfl) (by kernel_rfl) (fun _ _ _ h => h) (Or.inl ⟨by rfl, ?yg16_18⟩) hHeld ?rg16_18
              case yg16_18 =>
                intro wq hSw
                (try dsimp only at hSw)
                first | (go_simp; done) | (go_simp; with_reducible rfl)
              try simp only [Act.put, List.setIfInBounds_toArray, List.set_cons_zero, List.set_cons_succ]
              refine wpAnyH_done (by kernel_rfl) ?_ _
              have HbF := Lib.hid (Hb.out.trans ((hHeld.belowAll (fun _ h => h.elim)).mono Hb.out.size))
              clear hHeld
              obtain ⟨wf, hwf⟩ : ∃ x, x = v_1 := ⟨_, rfl⟩
              rw [← hwf] at HbF ⊢
              clear hwf
              go_wp2_with fail
              go_roundw
              case rel => exact ⟨i + 1, by omega, by go_num, HbF.out⟩
              case measure => simp [intOf]; omega
            · have hiqi : ¬ ((i : Int) < (q : Int)) := by omega
              have L9 := Lib.hid (L8.out.later Hb.out)
              go_wp2_with fail
              refine (ddatanil_any A n c _).mono ?_; rintro e w10 ⟨rfl, rfl⟩
              go_wp2_with fail
              refine (plannil_any B q d 0 _).mono ?_; rintro e w11 ⟨rfl, rfl⟩
              go_wp2_with fail
              refine (decodes_any _).mono ?_; rintro e wz ⟨rfl, hbz⟩
              have LZ := Lib.hid (L9.out.later hbz)
              clear hbz
              go_wp2_with fail
              go_ret
              exact ⟨rfl, LZ.out.bel⟩
        · have Hx0 := Lib.hid hx0
          clear hx0
          obtain ⟨x, hxd⟩ : ∃ x, x = rightX K0 M0 rs := ⟨_, rfl⟩
          have haa := fun u hc hg => dall_ok C K0 M0 F T A n c rs u hc hg HW.out hn1
          have hx1 : x ≠ 0 := by rw [hxd]; exact Hx0.out
          have hxb : (x != 0) = true := by simpa using hx1
          rw [← hxd] at haa
          have Hx1 := Lib.hid hx1
          clear hxd hx1
          go_wp2_with fail
          refine (haa _ C2.out G2.out).mono ?_; clear haa; rintro e w5 ⟨hR, hb5⟩
          rcases hR with ⟨_, rfl⟩ | ⟨hno, _⟩
          rotate_left
          · exact absurd hno Hx1.out
          have L5 := Lib.hid (L2.out.later hb5)
          have C5 := Lib.hid (C2.out.later hb5)
          have G5 := Lib.hid (G2.out.later hb5)
          clear hb5 L2 C2 G2
          go_wp2_with fail
          refine (there6_any A n c rs _ G5.out hn1).mono ?_; rintro e w6 ⟨⟨B, q, d, rfl, hsB⟩, hb6⟩
          clear hsB
          have L6 := Lib.hid (L5.out.later hb6)
          have C6 := Lib.hid (C5.out.later hb6)
          have G6 := Lib.hid (G5.out.later hb6)
          clear hb6 L5 C5 G5
          go_wp2_with fail
          refine (decodes_any _).mono ?_; rintro e wz ⟨rfl, hbz⟩
          have LZ := Lib.hid (L6.out.later hbz)
          clear hbz
          go_wp2_with fail
          go_ret
          exact ⟨rfl, LZ.out.bel⟩
  · have hmF := mayB_f hmay
    clear hmay
    go_enter Tryz.func7, Tryz.ntmps7
    go_wp2_with fail
    refine (new_any _).mono ?_; rintro e w1 ⟨rfl, hf, hb⟩
    obtain ⟨F, hF⟩ : ∃ F, F = w.heap.size + 1 := ⟨_, rfl⟩
    obtain ⟨T, hT⟩ : ∃ T, T = w.heap.size := ⟨_, rfl⟩
    rw [← hF] at hf ⊢
    rw [← hT] at hf
    have HT := Lib.hid (show w.heap.size ≤ T by omega)
    clear hF hT
    go_wp2_with fail
    refine (cnew_no F T k m hk hm hmF _ hf).mono ?_; rintro e w2 ⟨rfl, hf2, hr⟩
    have L2 := Lib.hid (Lw.of hb HT.out hr hf2)
    clear hf hb hf2 hr
    go_wp2_with fail
    refine (decodes_any _).mono ?_; rintro e wz ⟨rfl, hbz⟩
    have LZ := Lib.hid (L2.out.later hbz)
    clear hbz
    go_wp2_with fail
    go_ret
    exact ⟨rfl, LZ.out.bel⟩
end Go.Proofs.YtgoomiimlfdcmaaGreat
