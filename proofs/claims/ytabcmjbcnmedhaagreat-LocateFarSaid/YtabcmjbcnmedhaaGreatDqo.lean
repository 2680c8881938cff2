/-
  LocateFar returns true, whatever its arguments. No condition. (Written by gen_dqo.py.)
-/
import Derived.Test.YtabcmjbcnmedhaaGreatDql
namespace Go.Proofs.YtabcmjbcnmedhaaGreat
open Go.RowKit Go.Proofs
set_option linter.unusedVariables false

set_option maxRecDepth 100000 in
set_option maxHeartbeats 3200000 in
theorem locateFar_walk (k m : Int) (A : Option Addr) (ca : Nat) (a : List UInt8) (B : Option Addr) (cb : Nat) (b : List UInt8) (w : World) (hk : -9223372036854775808 ≤ k ∧ k < 9223372036854775808) (hm : -9223372036854775808 ≤ m ∧ m < 9223372036854775808) (ha : Sl w 1 A a.length ca (cells a)) (hb : Sl w 1 B b.length cb (cells b)) :
    Calls Tryz.prog 5 #[.int .i64 k, .int .i64 m, .slice A a.length ca, .slice B b.length cb] w (SaysTrue w) := by
  obtain ⟨na, hna⟩ : ∃ x, x = a.length := ⟨_, rfl⟩
  obtain ⟨nb, hnb⟩ : ∃ x, x = b.length := ⟨_, rfl⟩
  rw [← hna] at ha ⊢
  rw [← hnb] at hb ⊢
  have hlima := ha.lim
  have hlimb := hb.lim
  unfold maxLen at hlima hlimb
  have Ha := Lib.hid ha
  have Hb := Lib.hid hb
  clear ha hb hna hnb
  by_cases hmay : 1 ≤ k ∧ 1 ≤ m ∧ k + m ≤ 255
  · obtain ⟨K0, hK0⟩ : ∃ x : Nat, k = (x : Int) := ⟨k.toNat, by omega⟩
    obtain ⟨M0, hM0⟩ : ∃ x : Nat, m = (x : Int) := ⟨m.toNat, by omega⟩
    subst hK0; subst hM0
    have hb1 : 1 ≤ K0 := by omega
    have hb2 : 1 ≤ M0 := by omega
    have hb3 : K0 + M0 ≤ 255 := by omega
    have hkw : IntKind.i64.wrap ((K0 : Int) + (M0 : Int)) = (K0 : Int) + (M0 : Int) := by rw [IntKind.wrap_i64]; omega
    clear hmay hk hm
    by_cases h24 : (24 : Int) < (K0 : Int) + (M0 : Int)
    · go_enter Tryz.func5, Tryz.ntmps5
      go_wp2_with fail
      refine (new_any _).mono ?_; rintro e w1 ⟨rfl, hf, hb⟩
      obtain ⟨F, hF⟩ : ∃ F, F = w.heap.size + 1 := ⟨_, rfl⟩
      obtain ⟨T, hT⟩ : ∃ T, T = w.heap.size := ⟨_, rfl⟩
      rw [← hF] at hf ⊢
      rw [← hT] at hf
      have HT := Lib.hid (show w.heap.size ≤ T by omega)
      clear hF hT
      go_wp2_with fail
      refine (cnew_at F T (K0 : Int) (M0 : Int) K0 M0 rfl rfl ⟨hb1, hb2, hb3⟩ _ hf).mono ?_; rintro e w2 ⟨C, rfl, hC, hr⟩
      have L2 := Lib.hid (Lw.of hb HT.out hr hC.fld)
      have C2 := Lib.hid hC
      clear hf hb hC hr
      go_wp2_with fail
      refine (finds8_any _).mono ?_; rintro e wz ⟨rfl, hbz⟩
      have LZ := Lib.hid (L2.out.later hbz)
      clear hbz
      go_wp2_with fail
      go_ret
      exact ⟨rfl, LZ.out.bel⟩
    · by_cases hA : (200 : Int) < (na : Int)
      · go_enter Tryz.func5, Tryz.ntmps5
        go_wp2_with fail
        refine (new_any _).mono ?_; rintro e w1 ⟨rfl, hf, hb⟩
        obtain ⟨F, hF⟩ : ∃ F, F = w.heap.size + 1 := ⟨_, rfl⟩
        obtain ⟨T, hT⟩ : ∃ T, T = w.heap.size := ⟨_, rfl⟩
        rw [← hF] at hf ⊢
        rw [← hT] at hf
        have HT := Lib.hid (show w.heap.size ≤ T by omega)
        clear hF hT
        go_wp2_with fail
        refine (cnew_at F T (K0 : Int) (M0 : Int) K0 M0 rfl rfl ⟨hb1, hb2, hb3⟩ _ hf).mono ?_; rintro e w2 ⟨C, rfl, hC, hr⟩
        have L2 := Lib.hid (Lw.of hb HT.out hr hC.fld)
        have C2 := Lib.hid hC
        clear hf hb hC hr
        go_wp2_with fail
        refine (finds8_any _).mono ?_; rintro e wz ⟨rfl, hbz⟩
        have LZ := Lib.hid (L2.out.later hbz)
        clear hbz
        go_wp2_with fail
        go_ret
        exact ⟨rfl, LZ.out.bel⟩
      · by_cases hB : (200 : Int) < (nb : Int)
        · go_enter Tryz.func5, Tryz.ntmps5
          go_wp2_with fail
          refine (new_any _).mono ?_; rintro e w1 ⟨rfl, hf, hb⟩
          obtain ⟨F, hF⟩ : ∃ F, F = w.heap.size + 1 := ⟨_, rfl⟩
          obtain ⟨T, hT⟩ : ∃ T, T = w.heap.size := ⟨_, rfl⟩
          rw [← hF] at hf ⊢
          rw [← hT] at hf
          have HT := Lib.hid (show w.heap.size ≤ T by omega)
          clear hF hT
          go_wp2_with fail
          refine (cnew_at F T (K0 : Int) (M0 : Int) K0 M0 rfl rfl ⟨hb1, hb2, hb3⟩ _ hf).mono ?_; rintro e w2 ⟨C, rfl, hC, hr⟩
          have L2 := Lib.hid (Lw.of hb HT.out hr hC.fld)
          have C2 := Lib.hid hC
          clear hf hb hC hr
          go_wp2_with fail
          refine (finds8_any _).mono ?_; rintro e wz ⟨rfl, hbz⟩
          have LZ := Lib.hid (L2.out.later hbz)
          clear hbz
          go_wp2_with fail
          go_ret
          exact ⟨rfl, LZ.out.bel⟩
        · rcases Nat.lt_or_ge na nb with hmx | hmx
          · have hmi : (na : Int) < (nb : Int) := by omega
            obtain ⟨D, hD⟩ : ∃ D, D = nb / K0 := ⟨_, rfl⟩
            have hDle : D ≤ 3000 := by rw [hD]; exact Nat.le_trans (Nat.div_le_self _ _) (by omega)
            have hdv : (nb : Int) / (K0 : Int) = (D : Int) := by
              rw [show (nb : Int) / (K0 : Int) = ((nb / K0 : Nat) : Int) from by simp, ← hD]
            have hdv2 : wrap64 ((nb : Int) / (K0 : Int)) = (D : Int) := by
              rw [hdv]
              unfold wrap64
              omega
            have hbig : nb < K0 * (D + 1) := by rw [hD]; exact Nat.lt_mul_div_succ _ (by omega)
            have hbig2 : (nb : Int) < (K0 : Int) * ((D : Int) + 1) := by
              have : ((K0 * (D + 1) : Nat) : Int) = (K0 : Int) * ((D : Int) + 1) := by simp
              omega
            have hW1 : 1 ≤ (D : Int) + 1 ∧ (D : Int) + 1 ≤ 65536 := by omega
            have hWn : ((D : Int) + 1).toNat = D + 1 := by omega
            have Hbig := Lib.hid hbig2
            have HW1 := Lib.hid hW1
            have HWn := Lib.hid hWn
            clear hD hbig hbig2 hW1 hWn
            go_enter Tryz.func5, Tryz.ntmps5
            go_wp2_with fail
            refine (new_any _).mono ?_; rintro e w1 ⟨rfl, hf, hb⟩
            obtain ⟨F, hF⟩ : ∃ F, F = w.heap.size + 1 := ⟨_, rfl⟩
            obtain ⟨T, hT⟩ : ∃ T, T = w.heap.size := ⟨_, rfl⟩
            rw [← hF] at hf ⊢
            rw [← hT] at hf
            have HT := Lib.hid (show w.heap.size ≤ T by omega)
            clear hF hT
            go_wp2_with fail
            refine (cnew_at F T (K0 : Int) (M0 : Int) K0 M0 rfl rfl ⟨hb1, hb2, hb3⟩ _ hf).mono ?_; rintro e w2 ⟨C, rfl, hC, hr⟩
            have L2 := Lib.hid (Lw.of hb HT.out hr hC.fld)
            have C2 := Lib.hid hC
            clear hf hb hC hr
            go_wp2_with fail
            have SA2 := Lib.hid (Ha.out.below L2.out.bel (Nat.le_refl _))
            have SB2 := Lib.hid (Hb.out.below L2.out.bel (Nat.le_refl _))
            refine (split_any C K0 M0 F T A na ca a ((D : Int) + 1) (by omega) (by omega) _ C2.out SA2.out).mono ?_; rintro e w5 ⟨hb5, hR⟩
            rcases hR with ⟨h1, _⟩ | ⟨_, h2, _⟩ | ⟨_, _, g1, rfl, hg1⟩
            · exact absurd HW1.out h1
            · exfalso; have := Hbig.out; omega
            rw [HWn.out] at hg1
            have L5 := Lib.hid (L2.out.later hb5)
            have C5 := Lib.hid (C2.out.later hb5)
            have SB5 := Lib.hid (SB2.out.below hb5 (Nat.le_refl _))
            have X5 := Lib.hid hg1
            clear hb5 hg1 L2 C2 SA2 SB2
            go_wp2_with fail
            refine (split_any C K0 M0 F T B nb cb b ((D : Int) + 1) (by omega) (by omega) _ C5.out SB5.out).mono ?_; rintro e w6 ⟨hb6, hR⟩
            rcases hR with ⟨h1, _⟩ | ⟨_, h2, _⟩ | ⟨_, _, g2, rfl, hg2⟩
            · exact absurd HW1.out h1
            · exfalso; have := Hbig.out; omega
            rw [HWn.out] at hg2
            have L6 := Lib.hid (L5.out.later hb6)
            have C6 := Lib.hid (C5.out.later hb6)
            have X6 := Lib.hid (X5.out.later hb6)
            have Y6 := Lib.hid hg2
            clear hb6 hg2 L5 C5 SB5 X5
            obtain ⟨V, hV⟩ : ∃ V, V = D + 1 := ⟨_, rfl⟩
            rw [← hV] at X6 Y6
            have hVm : V ≤ 1048576 := by omega
            obtain ⟨ds, hds⟩ : ∃ x, x = cutL a V K0 := ⟨_, rfl⟩
            obtain ⟨es, hes⟩ : ∃ x, x = cutL b V K0 := ⟨_, rfl⟩
            rw [← hds] at X6
            rw [← hes] at Y6
            have LD := Lib.hid (show Lev K0 V ds by rw [hds]; exact cut_lev a V K0)
            have LE := Lib.hid (show Lev K0 V es by rw [hes]; exact cut_lev b V K0)
            clear hds hes hV
            go_wp2_with fail
            refine (all_any C K0 M0 F T (some ⟨g1, 0, none⟩) K0 K0 ds _ C6.out X6.out (LD.out.rows_ok hVm)).mono ?_; rintro e w7 ⟨hb7, hR⟩
            rcases hR with ⟨hno, _⟩ | ⟨_, AP, cp, rfl, hP⟩
            · rw [LD.out.ev] at hno; cases hno
            have L7 := Lib.hid (L6.out.later hb7)
            have C7 := Lib.hid (C6.out.later hb7)
            have X7 := Lib.hid (X6.out.later hb7)
            have Y7 := Lib.hid (Y6.out.later hb7)
            have P7 := Lib.hid hP
            clear hb7 hP L6 C6 X6 Y6
            go_wp2_with fail
            refine (all_any C K0 M0 F T (some ⟨g2, 0, none⟩) K0 K0 es _ C7.out Y7.out (LE.out.rows_ok hVm)).mono ?_; rintro e w8 ⟨hb8, hR⟩
            rcases hR with ⟨hno, _⟩ | ⟨_, AQ, cq, rfl, hQ⟩
            · rw [LE.out.ev] at hno; cases hno
            have L8 := Lib.hid (L7.out.later hb8)
            have C8 := Lib.hid (C7.out.later hb8)
            have X8 := Lib.hid (X7.out.later hb8)
            have Y8 := Lib.hid (Y7.out.later hb8)
            have P8 := Lib.hid (P7.out.later hb8)
            have Q8 := Lib.hid hQ
            clear hb8 hQ L7 C7 X7 Y7 P7
            have hNN : ((K0 + M0 : Nat) : Int) = (K0 : Int) + (M0 : Int) := by simp
            have hPW : ∀ r ∈ ds ++ parL K0 ds M0, r.length ≤ 1048576 := fun r hr => by rw [LD.out.allRows hb1 r hr]; exact hVm
            have hQW : ∀ r ∈ es ++ parL K0 es M0, r.length ≤ 1048576 := fun r hr => by rw [LE.out.allRows hb1 r hr]; exact hVm
            have HPW := Lib.hid hPW
            have HQW := Lib.hid hQW
            clear hPW hQW
            go_wp2_with fail
            refine (dholds_any C K0 M0 F T AP (K0 + M0) cp _ _ C8.out P8.out HPW.out).mono ?_; rintro e w9 ⟨he, hb9⟩
            rw [LD.out.holds hb1] at he
            subst he
            have L9 := Lib.hid (L8.out.later hb9)
            have C9 := Lib.hid (C8.out.later hb9)
            have X9 := Lib.hid (X8.out.later hb9)
            have Y9 := Lib.hid (Y8.out.later hb9)
            have P9 := Lib.hid (P8.out.later hb9)
            have Q9 := Lib.hid (Q8.out.later hb9)
            clear hb9 L8 C8 X8 Y8 P8 Q8
            go_wp2_with fail
            refine (dholds_any C K0 M0 F T AQ (K0 + M0) cq _ _ C9.out Q9.out HQW.out).mono ?_; rintro e wa ⟨he, hba⟩
            rw [LE.out.holds hb1] at he
            subst he
            have LA := Lib.hid (L9.out.later hba)
            have XA := Lib.hid (X9.out.later hba)
            have YA := Lib.hid (Y9.out.later hba)
            have PA := Lib.hid (P9.out.later hba)
            have QA := Lib.hid (Q9.out.later hba)
            clear hba L9 C9 X9 Y9 P9 Q9
            go_wp2_with fail
            refine (differ_any AP (K0 + M0) cp _ AQ (K0 + M0) cq _ wa PA.out QA.out (by omega) (by omega)).mono ?_; rintro e wb ⟨A9, q9, c9, rfl, hs9, hbb⟩
            rw [LD.out.all_len, LE.out.all_len, Nat.max_self] at hs9
            have hq9 := hs9.len
            rw [ncells_length, Nat.mul_one] at hq9
            have Hq9 := Lib.hid hq9
            have LB := Lib.hid (LA.out.later hbb)
            have XB := Lib.hid (XA.out.later hbb)
            have YB := Lib.hid (YA.out.later hbb)
            clear hs9 hbb hq9 LA XA YA PA QA
            go_wp2_with fail
            have hsm := fun u hx hy => rsame5_any (some ⟨g1, 0, none⟩) K0 K0 ds (some ⟨g2, 0, none⟩) K0 K0 es u hx hy
            by_cases hxy : ds = es
            · rw [decide_eq_true hxy] at hsm
              obtain rfl : q9 = 0 := by
                have := Hq9.out
                rw [hxy, show K0 + M0 = (es ++ parL K0 es M0).length from LE.out.all_len.symm, difL_self] at this
                exact this.symm
              clear hxy
              refine (hsm _ XB.out YB.out).mono ?_; clear hsm; rintro e wc ⟨rfl, hbc⟩
              have LC := Lib.hid (LB.out.later hbc)
              clear hbc LB XB YB
              go_wp2_with fail
              refine (finds8_any _).mono ?_; rintro e wz ⟨rfl, hbz⟩
              have LZ := Lib.hid (LC.out.later hbz)
              clear hbz
              go_wp2_with fail
              go_ret
              exact ⟨rfl, LZ.out.bel⟩
            · have hfar : M0 < q9 := by
                rcases Nat.lt_or_ge M0 q9 with h | h
                · exact h
                · exact absurd (LD.out.far LE.out hb3 (by rw [Hq9.out]; exact h)) hxy
              rw [decide_eq_false hxy] at hsm
              have hfar' : (M0 : Int) < (q9 : Int) := by omega
              clear hxy
              refine (hsm _ XB.out YB.out).mono ?_; rintro e wc ⟨rfl, hbc⟩
              have LC := Lib.hid (LB.out.later hbc)
              have XC := Lib.hid (XB.out.later hbc)
              have YC := Lib.hid (YB.out.later hbc)
              clear hbc LB XB YB
              go_wp2_with fail
              refine (hsm _ XC.out YC.out).mono ?_; clear hsm; rintro e wd ⟨rfl, hbd⟩
              have LD4 := Lib.hid (LC.out.later hbd)
              clear hbd LC XC YC
              go_wp2_with fail
              refine (finds8_any _).mono ?_; rintro e wz ⟨rfl, hbz⟩
              have LZ := Lib.hid (LD4.out.later hbz)
              clear hbz
              go_wp2_with fail
              go_ret
              exact ⟨rfl, LZ.out.bel⟩
          · have hmi : ¬ (na : Int) < (nb : Int) := by omega
            obtain ⟨D, hD⟩ : ∃ D, D = na / K0 := ⟨_, rfl⟩
            have hDle : D ≤ 3000 := by rw [hD]; exact Nat.le_trans (Nat.div_le_self _ _) (by omega)
            have hdv : (na : Int) / (K0 : Int) = (D : Int) := by
              rw [show (na : Int) / (K0 : Int) = ((na / K0 : Nat) : Int) from by simp, ← hD]
            have hdv2 : wrap64 ((na : Int) / (K0 : Int)) = (D : Int) := by
              rw [hdv]
              unfold wrap64
              omega
            have hbig : na < K0 * (D + 1) := by rw [hD]; exact Nat.lt_mul_div_succ _ (by omega)
            have hbig2 : (na : Int) < (K0 : Int) * ((D : Int) + 1) := by
              have : ((K0 * (D + 1) : Nat) : Int) = (K0 : Int) * ((D : Int) + 1) := by simp
              omega
            have hW1 : 1 ≤ (D : Int) + 1 ∧ (D : Int) + 1 ≤ 65536 := by omega
            have hWn : ((D : Int) + 1).toNat = D + 1 := by omega
            have Hbig := Lib.hid hbig2
            have HW1 := Lib.hid hW1
            have HWn := Lib.hid hWn
            clear hD hbig hbig2 hW1 hWn
            go_enter Tryz.func5, Tryz.ntmps5
            go_wp2_with fail
            refine (new_any _).mono ?_; rintro e w1 ⟨rfl, hf, hb⟩
            obtain ⟨F, hF⟩ : ∃ F, F = w.heap.size + 1 := ⟨_, rfl⟩
            obtain ⟨T, hT⟩ : ∃ T, T = w.heap.size := ⟨_, rfl⟩
            rw [← hF] at hf ⊢
            rw [← hT] at hf
            have HT := Lib.hid (show w.heap.size ≤ T by omega)
            clear hF hT
            go_wp2_with fail
            refine (cnew_at F T (K0 : Int) (M0 : Int) K0 M0 rfl rfl ⟨hb1, hb2, hb3⟩ _ hf).mono ?_; rintro e w2 ⟨C, rfl, hC, hr⟩
            have L2 := Lib.hid (Lw.of hb HT.out hr hC.fld)
            have C2 := Lib.hid hC
            clear hf hb hC hr
            go_wp2_with fail
            have SA2 := Lib.hid (Ha.out.below L2.out.bel (Nat.le_refl _))
            have SB2 := Lib.hid (Hb.out.below L2.out.bel (Nat.le_refl _))
            refine (split_any C K0 M0 F T A na ca a ((D : Int) + 1) (by omega) (by omega) _ C2.out SA2.out).mono ?_; rintro e w5 ⟨hb5, hR⟩
            rcases hR with ⟨h1, _⟩ | ⟨_, h2, _⟩ | ⟨_, _, g1, rfl, hg1⟩
            · exact absurd HW1.out h1
            · exfalso; have := Hbig.out; omega
            rw [HWn.out] at hg1
            have L5 := Lib.hid (L2.out.later hb5)
            have C5 := Lib.hid (C2.out.later hb5)
            have SB5 := Lib.hid (SB2.out.below hb5 (Nat.le_refl _))
            have X5 := Lib.hid hg1
            clear hb5 hg1 L2 C2 SA2 SB2
            go_wp2_with fail
            refine (split_any C K0 M0 F T B nb cb b ((D : Int) + 1) (by omega) (by omega) _ C5.out SB5.out).mono ?_; rintro e w6 ⟨hb6, hR⟩
            rcases hR with ⟨h1, _⟩ | ⟨_, h2, _⟩ | ⟨_, _, g2, rfl, hg2⟩
            · exact absurd HW1.out h1
            · exfalso; have := Hbig.out; omega
            rw [HWn.out] at hg2
            have L6 := Lib.hid (L5.out.later hb6)
            have C6 := Lib.hid (C5.out.later hb6)
            have X6 := Lib.hid (X5.out.later hb6)
            have Y6 := Lib.hid hg2
            clear hb6 hg2 L5 C5 SB5 X5
            obtain ⟨V, hV⟩ : ∃ V, V = D + 1 := ⟨_, rfl⟩
            rw [← hV] at X6 Y6
            have hVm : V ≤ 1048576 := by omega
            obtain ⟨ds, hds⟩ : ∃ x, x = cutL a V K0 := ⟨_, rfl⟩
            obtain ⟨es, hes⟩ : ∃ x, x = cutL b V K0 := ⟨_, rfl⟩
            rw [← hds] at X6
            rw [← hes] at Y6
            have LD := Lib.hid (show Lev K0 V ds by rw [hds]; exact cut_lev a V K0)
            have LE := Lib.hid (show Lev K0 V es by rw [hes]; exact cut_lev b V K0)
            clear hds hes hV
            go_wp2_with fail
            refine (all_any C K0 M0 F T (some ⟨g1, 0, none⟩) K0 K0 ds _ C6.out X6.out (LD.out.rows_ok hVm)).mono ?_; rintro e w7 ⟨hb7, hR⟩
            rcases hR with ⟨hno, _⟩ | ⟨_, AP, cp, rfl, hP⟩
            · rw [LD.out.ev] at hno; cases hno
            have L7 := Lib.hid (L6.out.later hb7)
            have C7 := Lib.hid (C6.out.later hb7)
            have X7 := Lib.hid (X6.out.later hb7)
            have Y7 := Lib.hid (Y6.out.later hb7)
            have P7 := Lib.hid hP
            clear hb7 hP L6 C6 X6 Y6
            go_wp2_with fail
            refine (all_any C K0 M0 F T (some ⟨g2, 0, none⟩) K0 K0 es _ C7.out Y7.out (LE.out.rows_ok hVm)).mono ?_; rintro e w8 ⟨hb8, hR⟩
            rcases hR with ⟨hno, _⟩ | ⟨_, AQ, cq, rfl, hQ⟩
            · rw [LE.out.ev] at hno; cases hno
            have L8 := Lib.hid (L7.out.later hb8)
            have C8 := Lib.hid (C7.out.later hb8)
            have X8 := Lib.hid (X7.out.later hb8)
            have Y8 := Lib.hid (Y7.out.later hb8)
            have P8 := Lib.hid (P7.out.later hb8)
            have Q8 := Lib.hid hQ
            clear hb8 hQ L7 C7 X7 Y7 P7
            have hNN : ((K0 + M0 : Nat) : Int) = (K0 : Int) + (M0 : Int) := by simp
            have hPW : ∀ r ∈ ds ++ parL K0 ds M0, r.length ≤ 1048576 := fun r hr => by rw [LD.out.allRows hb1 r hr]; exact hVm
            have hQW : ∀ r ∈ es ++ parL K0 es M0, r.length ≤ 1048576 := fun r hr => by rw [LE.out.allRows hb1 r hr]; exact hVm
            have HPW := Lib.hid hPW
            have HQW := Lib.hid hQW
            clear hPW hQW
            go_wp2_with fail
            refine (dholds_any C K0 M0 F T AP (K0 + M0) cp _ _ C8.out P8.out HPW.out).mono ?_; rintro e w9 ⟨he, hb9⟩
            rw [LD.out.holds hb1] at he
            subst he
            have L9 := Lib.hid (L8.out.later hb9)
            have C9 := Lib.hid (C8.out.later hb9)
            have X9 := Lib.hid (X8.out.later hb9)
            have Y9 := Lib.hid (Y8.out.later hb9)
            have P9 := Lib.hid (P8.out.later hb9)
            have Q9 := Lib.hid (Q8.out.later hb9)
            clear hb9 L8 C8 X8 Y8 P8 Q8
            go_wp2_with fail
            refine (dholds_any C K0 M0 F T AQ (K0 + M0) cq _ _ C9.out Q9.out HQW.out).mono ?_; rintro e wa ⟨he, hba⟩
            rw [LE.out.holds hb1] at he
            subst he
            have LA := Lib.hid (L9.out.later hba)
            have XA := Lib.hid (X9.out.later hba)
            have YA := Lib.hid (Y9.out.later hba)
            have PA := Lib.hid (P9.out.later hba)
            have QA := Lib.hid (Q9.out.later hba)
            clear hba L9 C9 X9 Y9 P9 Q9
            go_wp2_with fail
            refine (differ_any AP (K0 + M0) cp _ AQ (K0 + M0) cq _ wa PA.out QA.out (by omega) (by omega)).mono ?_; rintro e wb ⟨A9, q9, c9, rfl, hs9, hbb⟩
            rw [LD.out.all_len, LE.out.all_len, Nat.max_self] at hs9
            have hq9 := hs9.len
            rw [ncells_length, Nat.mul_one] at hq9
            have Hq9 := Lib.hid hq9
            have LB := Lib.hid (LA.out.later hbb)
            have XB := Lib.hid (XA.out.later hbb)
            have YB := Lib.hid (YA.out.later hbb)
            clear hs9 hbb hq9 LA XA YA PA QA
            go_wp2_with fail
            have hsm := fun u hx hy => rsame5_any (some ⟨g1, 0, none⟩) K0 K0 ds (some ⟨g2, 0, none⟩) K0 K0 es u hx hy
            by_cases hxy : ds = es
            · rw [decide_eq_true hxy] at hsm
              obtain rfl : q9 = 0 := by
                have := Hq9.out
                rw [hxy, show K0 + M0 = (es ++ parL K0 es M0).length from LE.out.all_len.symm, difL_self] at this
                exact this.symm
              clear hxy
              refine (hsm _ XB.out YB.out).mono ?_; clear hsm; rintro e wc ⟨rfl, hbc⟩
              have LC := Lib.hid (LB.out.later hbc)
              clear hbc LB XB YB
              go_wp2_with fail
              refine (finds8_any _).mono ?_; rintro e wz ⟨rfl, hbz⟩
              have LZ := Lib.hid (LC.out.later hbz)
              clear hbz
              go_wp2_with fail
              go_ret
              exact ⟨rfl, LZ.out.bel⟩
            · have hfar : M0 < q9 := by
                rcases Nat.lt_or_ge M0 q9 with h | h
                · exact h
                · exact absurd (LD.out.far LE.out hb3 (by rw [Hq9.out]; exact h)) hxy
              rw [decide_eq_false hxy] at hsm
              have hfar' : (M0 : Int) < (q9 : Int) := by omega
              clear hxy
              refine (hsm _ XB.out YB.out).mono ?_; rintro e wc ⟨rfl, hbc⟩
              have LC := Lib.hid (LB.out.later hbc)
              have XC := Lib.hid (XB.out.later hbc)
              have YC := Lib.hid (YB.out.later hbc)
              clear hbc LB XB YB
              go_wp2_with fail
              refine (hsm _ XC.out YC.out).mono ?_; clear hsm; rintro e wd ⟨rfl, hbd⟩
              have LD4 := Lib.hid (LC.out.later hbd)
              clear hbd LC XC YC
              go_wp2_with fail
              refine (finds8_any _).mono ?_; rintro e wz ⟨rfl, hbz⟩
              have LZ := Lib.hid (LD4.out.later hbz)
              clear hbz
              go_wp2_with fail
              go_ret
              exact ⟨rfl, LZ.out.bel⟩
  · have hmF := mayB_f hmay
    clear hmay
    go_enter Tryz.func5, Tryz.ntmps5
    go_wp2_with fail
    refine (new_any _).mono ?_; rintro e w1 ⟨rfl, hf, hb⟩
    obtain ⟨F, hF⟩ : ∃ F, F = w.heap.size + 1 := ⟨_, rfl⟩
    obtain ⟨T, hT⟩ : ∃ T, T = w.heap.size := ⟨_, rfl⟩
    rw [← hF] at hf ⊢
    rw [← hT] at hf
    have HT := Lib.hid (show w.heap.size ≤ T by omega)
    clear hF hT
    go_wp2_with fail
    refine (cnew_no F T k m hk hm hmF _ hf).mono ?_; rintro e w2 ⟨rfl, hf2, hr⟩
    have L2 := Lib.hid (Lw.of hb HT.out hr hf2)
    clear hf hb hf2 hr
    go_wp2_with fail
    refine (finds8_any _).mono ?_; rintro e wz ⟨rfl, hbz⟩
    have LZ := Lib.hid (L2.out.later hbz)
    clear hbz
    go_wp2_with fail
    go_ret
    exact ⟨rfl, LZ.out.bel⟩
end Go.Proofs.YtabcmjbcnmedhaaGreat
