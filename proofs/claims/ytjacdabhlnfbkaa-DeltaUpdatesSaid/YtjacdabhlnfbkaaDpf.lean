/-
  DeltaUpdates returns true, whatever its arguments. No condition. (Written by gen_dpf.py.)
-/
import Derived.Test.YtjacdabhlnfbkaaDpe
namespace Go.Proofs.Ytjacdabhlnfbkaa
open Go.RowKit Go.Proofs
set_option linter.unusedVariables false

set_option maxRecDepth 100000 in
set_option maxHeartbeats 3200000 in
theorem deltaUpdates_walk (k m j : Int) (A0 : Option Addr) (p0 : Nat) (old : List UInt8) (A1 : Option Addr) (p1 : Nat) (now : List UInt8) (A : Option Addr) (c : Nat) (rs : List (List UInt8)) (w : World) (hk : -9223372036854775808 ≤ k ∧ k < 9223372036854775808) (hm : -9223372036854775808 ≤ m ∧ m < 9223372036854775808) (hs0 : Sl w 1 A0 old.length p0 (cells old)) (hs1 : Sl w 1 A1 now.length p1 (cells now)) (hg : Gr w A rs.length c rs) :
    Calls Try.prog 3 #[.int .i64 k, .int .i64 m, .int .i64 j, .slice A0 old.length p0, .slice A1 now.length p1, .slice A rs.length c] w (SaysTrue w) := by
  have hlim := hg.lim
  have hl0 := hs0.lim
  have hl1 := hs1.lim
  unfold maxLen at hlim hl0 hl1
  obtain ⟨n, hn⟩ : ∃ n, n = rs.length := ⟨_, rfl⟩
  obtain ⟨L0, hL0⟩ : ∃ n, n = old.length := ⟨_, rfl⟩
  obtain ⟨L1, hL1⟩ : ∃ n, n = now.length := ⟨_, rfl⟩
  rw [← hn] at hlim hg ⊢
  rw [← hL0] at hl0 hs0 ⊢
  rw [← hL1] at hl1 hs1 ⊢
  have Hg := Lib.hid hg
  have Hs0 := Lib.hid hs0
  have Hs1 := Lib.hid hs1
  clear hg hs0 hs1 hn hL0 hL1
  by_cases hmay : 1 ≤ k ∧ 1 ≤ m ∧ k + m ≤ 255
  · obtain ⟨K0, hK0⟩ : ∃ x : Nat, k = (x : Int) := ⟨k.toNat, by omega⟩
    obtain ⟨M0, hM0⟩ : ∃ x : Nat, m = (x : Int) := ⟨m.toNat, by omega⟩
    subst hK0; subst hM0
    have hb1 : 1 ≤ K0 := by omega
    have hb2 : 1 ≤ M0 := by omega
    have hb3 : K0 + M0 ≤ 255 := by omega
    have hkw : IntKind.i64.wrap ((K0 : Int) + (M0 : Int)) = (K0 : Int) + (M0 : Int) := by rw [IntKind.wrap_i64]; omega
    have hrm := fun u => rmay_any (K0 : Int) (M0 : Int) hk hm u
    rw [mayB_t hmay] at hrm
    clear hmay hk hm
    by_cases h24 : (24 : Int) < (K0 : Int) + (M0 : Int)
    · go_enter Try.func3, Try.ntmps3
      go_wp2_with fail
      refine (new_any _).mono ?_; rintro e w1 ⟨rfl, hf, hb⟩
      obtain ⟨F, hF⟩ : ∃ F, F = w.heap.size + 1 := ⟨_, rfl⟩
      obtain ⟨T, hT⟩ : ∃ T, T = w.heap.size := ⟨_, rfl⟩
      rw [← hF] at hf ⊢
      rw [← hT] at hf
      have HT := Lib.hid (show w.heap.size ≤ T by omega)
      clear hF hT
      go_wp2_with fail
      refine (cnew_at F T (K0 : Int) (M0 : Int) K0 M0 rfl rfl ⟨hb1, hb2, hb3⟩ _ hf).mono ?_; rintro e w2 ⟨C, rfl, hC, hr⟩
      have L2 := Lib.hid (Lw.of hb HT.out hr hC.fld)
      have C2 := Lib.hid hC
      clear hf hb hC hr
      go_wp2_with fail
      refine (hrm _).mono ?_; clear hrm; rintro e w3 ⟨rfl, hw3⟩
      obtain rfl : w2 = w3 := hw3.symm
      have G2 := Lib.hid (Hg.out.later L2.out.bel)
      have O2 := Lib.hid (Hs0.out.below L2.out.bel (Nat.le_refl _))
      have N2 := Lib.hid (Hs1.out.below L2.out.bel (Nat.le_refl _))
      go_wp2_with fail
      refine (goes7_any _).mono ?_; rintro e wz ⟨rfl, hbz⟩
      have LZ := Lib.hid (L2.out.later hbz)
      clear hbz
      go_wp2_with fail
      go_ret
      exact ⟨rfl, LZ.out.bel⟩
    · by_cases ho : (300 : Int) < (L0 : Int)
      · go_enter Try.func3, Try.ntmps3
        go_wp2_with fail
        refine (new_any _).mono ?_; rintro e w1 ⟨rfl, hf, hb⟩
        obtain ⟨F, hF⟩ : ∃ F, F = w.heap.size + 1 := ⟨_, rfl⟩
        obtain ⟨T, hT⟩ : ∃ T, T = w.heap.size := ⟨_, rfl⟩
        rw [← hF] at hf ⊢
        rw [← hT] at hf
        have HT := Lib.hid (show w.heap.size ≤ T by omega)
        clear hF hT
        go_wp2_with fail
        refine (cnew_at F T (K0 : Int) (M0 : Int) K0 M0 rfl rfl ⟨hb1, hb2, hb3⟩ _ hf).mono ?_; rintro e w2 ⟨C, rfl, hC, hr⟩
        have L2 := Lib.hid (Lw.of hb HT.out hr hC.fld)
        have C2 := Lib.hid hC
        clear hf hb hC hr
        go_wp2_with fail
        refine (hrm _).mono ?_; clear hrm; rintro e w3 ⟨rfl, hw3⟩
        obtain rfl : w2 = w3 := hw3.symm
        have G2 := Lib.hid (Hg.out.later L2.out.bel)
        have O2 := Lib.hid (Hs0.out.below L2.out.bel (Nat.le_refl _))
        have N2 := Lib.hid (Hs1.out.below L2.out.bel (Nat.le_refl _))
        go_wp2_with fail
        refine (goes7_any _).mono ?_; rintro e wz ⟨rfl, hbz⟩
        have LZ := Lib.hid (L2.out.later hbz)
        clear hbz
        go_wp2_with fail
        go_ret
        exact ⟨rfl, LZ.out.bel⟩
      · have HL0 := Lib.hid (show L0 ≤ 1048576 by omega)
        by_cases hnw : (300 : Int) < (L1 : Int)
        · go_enter Try.func3, Try.ntmps3
          go_wp2_with fail
          refine (new_any _).mono ?_; rintro e w1 ⟨rfl, hf, hb⟩
          obtain ⟨F, hF⟩ : ∃ F, F = w.heap.size + 1 := ⟨_, rfl⟩
          obtain ⟨T, hT⟩ : ∃ T, T = w.heap.size := ⟨_, rfl⟩
          rw [← hF] at hf ⊢
          rw [← hT] at hf
          have HT := Lib.hid (show w.heap.size ≤ T by omega)
          clear hF hT
          go_wp2_with fail
          refine (cnew_at F T (K0 : Int) (M0 : Int) K0 M0 rfl rfl ⟨hb1, hb2, hb3⟩ _ hf).mono ?_; rintro e w2 ⟨C, rfl, hC, hr⟩
          have L2 := Lib.hid (Lw.of hb HT.out hr hC.fld)
          have C2 := Lib.hid hC
          clear hf hb hC hr
          go_wp2_with fail
          refine (hrm _).mono ?_; clear hrm; rintro e w3 ⟨rfl, hw3⟩
          obtain rfl : w2 = w3 := hw3.symm
          have G2 := Lib.hid (Hg.out.later L2.out.bel)
          have O2 := Lib.hid (Hs0.out.below L2.out.bel (Nat.le_refl _))
          have N2 := Lib.hid (Hs1.out.below L2.out.bel (Nat.le_refl _))
          go_wp2_with fail
          refine (goes7_any _).mono ?_; rintro e wz ⟨rfl, hbz⟩
          have LZ := Lib.hid (L2.out.later hbz)
          clear hbz
          go_wp2_with fail
          go_ret
          exact ⟨rfl, LZ.out.bel⟩
        · go_enter Try.func3, Try.ntmps3
          go_wp2_with fail
          refine (new_any _).mono ?_; rintro e w1 ⟨rfl, hf, hb⟩
          obtain ⟨F, hF⟩ : ∃ F, F = w.heap.size + 1 := ⟨_, rfl⟩
          obtain ⟨T, hT⟩ : ∃ T, T = w.heap.size := ⟨_, rfl⟩
          rw [← hF] at hf ⊢
          rw [← hT] at hf
          have HT := Lib.hid (show w.heap.size ≤ T by omega)
          clear hF hT
          go_wp2_with fail
          refine (cnew_at F T (K0 : Int) (M0 : Int) K0 M0 rfl rfl ⟨hb1, hb2, hb3⟩ _ hf).mono ?_; rintro e w2 ⟨C, rfl, hC, hr⟩
          have L2 := Lib.hid (Lw.of hb HT.out hr hC.fld)
          have C2 := Lib.hid hC
          clear hf hb hC hr
          go_wp2_with fail
          refine (hrm _).mono ?_; clear hrm; rintro e w3 ⟨rfl, hw3⟩
          obtain rfl : w2 = w3 := hw3.symm
          have G2 := Lib.hid (Hg.out.later L2.out.bel)
          have O2 := Lib.hid (Hs0.out.below L2.out.bel (Nat.le_refl _))
          have N2 := Lib.hid (Hs1.out.below L2.out.bel (Nat.le_refl _))
          go_wp2_with fail
          refine (few5_any 0 A n c rs _ G2.out).mono ?_; rintro e w4 ⟨hw4, bf, rfl, hfew⟩
          obtain rfl : w2 = w4 := hw4.symm
          cases bf
          · clear hfew
            go_wp2_with fail
            refine (goes7_any _).mono ?_; rintro e wz ⟨rfl, hbz⟩
            have LZ := Lib.hid (L2.out.later hbz)
            clear hbz
            go_wp2_with fail
            go_ret
            exact ⟨rfl, LZ.out.bel⟩
          · obtain ⟨hn260, hrows⟩ := hfew rfl
            have HW := Lib.hid (show ∀ r ∈ rs, r.length ≤ 1048576 from fun r hr => Nat.le_trans (hrows r hr) (by decide))
            have hn1 : n ≤ 1048576 := by omega
            clear hfew hrows
            by_cases hj : 0 ≤ j ∧ j < (K0 : Int)
            · have Hj := Lib.hid hj
              clear hj
              obtain ⟨J, rfl⟩ : ∃ x : Nat, j = (x : Int) := ⟨j.toNat, by have := Hj.out; omega⟩
              have hJ : J < K0 := by have := Hj.out; omega
              have hsd := fun u hc h0 => dspread_yes C K0 M0 F T J A0 L0 p0 old u hc h0 HL0.out hJ
              have hsr := fun u h0 => rspread_yes K0 M0 J A0 L0 p0 old u hJ hb3 h0 HL0.out
              have hur := fun u h0 h1 hg => rupdate_any K0 M0 (J : Int) A0 L0 p0 old A1 L1 p1 now A n c rs u hb3 h0 h1 hg HL0.out hn1
              go_wp2_with fail
              refine (hsd _ C2.out O2.out).mono ?_; clear hsd; rintro e w5 ⟨⟨A5, c5, rfl, hP⟩, hb5⟩
              have P5 := Lib.hid hP
              clear hP
              have L5 := Lib.hid (L2.out.later hb5)
              have C5 := Lib.hid (C2.out.later hb5)
              have G5 := Lib.hid (G2.out.later hb5)
              have O5 := Lib.hid (O2.out.below hb5 (Nat.le_refl _))
              have N5 := Lib.hid (N2.out.below hb5 (Nat.le_refl _))
              clear hb5 L2 C2 G2 O2 N2
              go_wp2_with fail
              refine (hsr _ O5.out).mono ?_; clear hsr; rintro e w6 ⟨⟨A6, c6, rfl, hQ⟩, hb6⟩
              have Q6 := Lib.hid hQ
              clear hQ
              have L6 := Lib.hid (L5.out.later hb6)
              have C6 := Lib.hid (C5.out.later hb6)
              have G6 := Lib.hid (G5.out.later hb6)
              have O6 := Lib.hid (O5.out.below hb6 (Nat.le_refl _))
              have N6 := Lib.hid (N5.out.below hb6 (Nat.le_refl _))
              have P6 := Lib.hid (P5.out.later hb6)
              clear hb6 L5 C5 G5 O5 N5 P5
              by_cases hok : UpdOk K0 M0 (J : Int) old now rs
              · have Hok := Lib.hid hok
                clear hok
                have hud := fun u hc h0 h1 hg => dupdate_yes C K0 M0 F T J A0 L0 p0 old A1 L1 p1 now A n c rs u hc h0 h1 hg HL0.out Hok.out
                go_wp2_with fail
                refine (hud _ C6.out O6.out N6.out G6.out).mono ?_; clear hud; rintro e w7 ⟨⟨A7, c7, rfl, hU⟩, hb7⟩
                have U7 := Lib.hid hU
                clear hU
                have L7 := Lib.hid (L6.out.later hb7)
                have C7 := Lib.hid (C6.out.later hb7)
                have G7 := Lib.hid (G6.out.later hb7)
                have O7 := Lib.hid (O6.out.below hb7 (Nat.le_refl _))
                have N7 := Lib.hid (N6.out.below hb7 (Nat.le_refl _))
                have P7 := Lib.hid (P6.out.later hb7)
                have Q7 := Lib.hid (Q6.out.later hb7)
                clear hb7 L6 C6 G6 O6 N6 P6 Q6
                go_wp2_with fail
                refine (hur _ O7.out N7.out G7.out).mono ?_; clear hur; rintro e w8 ⟨hR, hb8⟩
                rcases hR with ⟨hno, _⟩ | ⟨_, A8, c8, rfl, hV⟩
                · exact absurd Hok.out hno
                rw [Int.toNat_natCast] at hV
                have V8 := Lib.hid hV
                clear hV
                have L8 := Lib.hid (L7.out.later hb8)
                have C8 := Lib.hid (C7.out.later hb8)
                have G8 := Lib.hid (G7.out.later hb8)
                have O8 := Lib.hid (O7.out.below hb8 (Nat.le_refl _))
                have N8 := Lib.hid (N7.out.below hb8 (Nat.le_refl _))
                have P8 := Lib.hid (P7.out.later hb8)
                have Q8 := Lib.hid (Q7.out.later hb8)
                have U8 := Lib.hid (U7.out.later hb8)
                clear hb8 L7 C7 G7 O7 N7 P7 Q7 U7
                go_wp2_with fail
                refine (rsame5_any _ _ _ _ _ _ _ _ _ P8.out Q8.out).mono ?_; rintro e w9 ⟨rfl, hb9⟩
                rw [decide_eq_true rfl]
                have L9 := Lib.hid (L8.out.later hb9)
                have U9 := Lib.hid (U8.out.later hb9)
                have V9 := Lib.hid (V8.out.later hb9)
                clear hb9 L8 U8 V8
                clear P8 Q8
                go_wp2_with fail
                refine (rsame5_any _ _ _ _ _ _ _ _ _ U9.out V9.out).mono ?_; rintro e w10 ⟨rfl, hb10⟩
                rw [decide_eq_true rfl]
                have L10 := Lib.hid (L9.out.later hb10)
                clear hb10 L9
                clear U9 V9
                go_wp2_with fail
                refine (goes7_any _).mono ?_; rintro e wz ⟨rfl, hbz⟩
                have LZ := Lib.hid (L10.out.later hbz)
                clear hbz
                go_wp2_with fail
                go_ret
                exact ⟨rfl, LZ.out.bel⟩
              · have Hok := Lib.hid hok
                clear hok
                have hud := fun u hc h0 h1 hg => dupdate_no C K0 M0 F T (J : Int) A0 L0 p0 old A1 L1 p1 now A n c rs u hc h0 h1 hg Hok.out
                go_wp2_with fail
                refine (hud _ C6.out O6.out N6.out G6.out).mono ?_; clear hud; rintro e w7 ⟨rfl, hb7⟩
                have L7 := Lib.hid (L6.out.later hb7)
                have C7 := Lib.hid (C6.out.later hb7)
                have G7 := Lib.hid (G6.out.later hb7)
                have O7 := Lib.hid (O6.out.below hb7 (Nat.le_refl _))
                have N7 := Lib.hid (N6.out.below hb7 (Nat.le_refl _))
                have P7 := Lib.hid (P6.out.later hb7)
                have Q7 := Lib.hid (Q6.out.later hb7)
                clear hb7 L6 C6 G6 O6 N6 P6 Q6
                go_wp2_with fail
                refine (hur _ O7.out N7.out G7.out).mono ?_; clear hur; rintro e w8 ⟨hR, hb8⟩
                rcases hR with ⟨_, rfl⟩ | ⟨hok, _⟩
                rotate_left
                · exact absurd hok Hok.out
                have L8 := Lib.hid (L7.out.later hb8)
                have C8 := Lib.hid (C7.out.later hb8)
                have G8 := Lib.hid (G7.out.later hb8)
                have O8 := Lib.hid (O7.out.below hb8 (Nat.le_refl _))
                have N8 := Lib.hid (N7.out.below hb8 (Nat.le_refl _))
                have P8 := Lib.hid (P7.out.later hb8)
                have Q8 := Lib.hid (Q7.out.later hb8)
                clear hb8 L7 C7 G7 O7 N7 P7 Q7
                go_wp2_with fail
                refine (rsame5_any _ _ _ _ _ _ _ _ _ P8.out Q8.out).mono ?_; rintro e w9 ⟨rfl, hb9⟩
                rw [decide_eq_true rfl]
                have L9 := Lib.hid (L8.out.later hb9)
                clear hb9 L8
                clear P8 Q8
                go_wp2_with fail
                refine (rsame5_any none 0 0 [] none 0 0 [] _ (Gr.nil _ 0 (by decide)) (Gr.nil _ 0 (by decide))).mono ?_; rintro e w10 ⟨rfl, hb10⟩
                rw [show decide (([] : List (List UInt8)) = []) = true from rfl]
                have L10 := Lib.hid (L9.out.later hb10)
                clear hb10 L9
                go_wp2_with fail
                refine (goes7_any _).mono ?_; rintro e wz ⟨rfl, hbz⟩
                have LZ := Lib.hid (L10.out.later hbz)
                clear hbz
                go_wp2_with fail
                go_ret
                exact ⟨rfl, LZ.out.bel⟩
            · have Hj := Lib.hid hj
              clear hj
              have hsd := fun u hc => dspread_no C K0 M0 F T j A0 L0 p0 u hc Hj.out
              have hsr := fun u => rspread_no K0 M0 j A0 L0 p0 u Hj.out
              have hno : ¬ UpdOk K0 M0 j old now rs := fun h => Hj.out h.1
              have hud := fun u hc h0 h1 hg => dupdate_no C K0 M0 F T j A0 L0 p0 old A1 L1 p1 now A n c rs u hc h0 h1 hg hno
              have hur := fun u h0 h1 hg => rupdate_any K0 M0 j A0 L0 p0 old A1 L1 p1 now A n c rs u hb3 h0 h1 hg HL0.out hn1
              have Hno := Lib.hid hno
              clear hno
              go_wp2_with fail
              refine (hsd _ C2.out).mono ?_; clear hsd; rintro e w5 ⟨rfl, hw5⟩
              obtain rfl : w2 = w5 := hw5.symm
              go_wp2_with fail
              refine (hsr _).mono ?_; clear hsr; rintro e w6 ⟨rfl, hw6⟩
              obtain rfl : w2 = w6 := hw6.symm
              go_wp2_with fail
              refine (hud _ C2.out O2.out N2.out G2.out).mono ?_; clear hud; rintro e w7 ⟨rfl, hb7⟩
              have L7 := Lib.hid (L2.out.later hb7)
              have C7 := Lib.hid (C2.out.later hb7)
              have G7 := Lib.hid (G2.out.later hb7)
              have O7 := Lib.hid (O2.out.below hb7 (Nat.le_refl _))
              have N7 := Lib.hid (N2.out.below hb7 (Nat.le_refl _))
              clear hb7 L2 C2 G2 O2 N2
              go_wp2_with fail
              refine (hur _ O7.out N7.out G7.out).mono ?_; clear hur; rintro e w8 ⟨hR, hb8⟩
              rcases hR with ⟨_, rfl⟩ | ⟨hok, _⟩
              rotate_left
              · exact absurd hok Hno.out
              have L8 := Lib.hid (L7.out.later hb8)
              have C8 := Lib.hid (C7.out.later hb8)
              have G8 := Lib.hid (G7.out.later hb8)
              have O8 := Lib.hid (O7.out.below hb8 (Nat.le_refl _))
              have N8 := Lib.hid (N7.out.below hb8 (Nat.le_refl _))
              clear hb8 L7 C7 G7 O7 N7
              go_wp2_with fail
              refine (rsame5_any none 0 0 [] none 0 0 [] _ (Gr.nil _ 0 (by decide)) (Gr.nil _ 0 (by decide))).mono ?_; rintro e w9 ⟨rfl, hb9⟩
              rw [show decide (([] : List (List UInt8)) = []) = true from rfl]
              have L9 := Lib.hid (L8.out.later hb9)
              clear hb9 L8
              go_wp2_with fail
              refine (rsame5_any none 0 0 [] none 0 0 [] _ (Gr.nil _ 0 (by decide)) (Gr.nil _ 0 (by decide))).mono ?_; rintro e w10 ⟨rfl, hb10⟩
              rw [show decide (([] : List (List UInt8)) = []) = true from rfl]
              have L10 := Lib.hid (L9.out.later hb10)
              clear hb10 L9
              go_wp2_with fail
              refine (goes7_any _).mono ?_; rintro e wz ⟨rfl, hbz⟩
              have LZ := Lib.hid (L10.out.later hbz)
              clear hbz
              go_wp2_with fail
              go_ret
              exact ⟨rfl, LZ.out.bel⟩
  · have hmF := mayB_f hmay
    have hrm := fun u => rmay_any k m hk hm u
    rw [hmF] at hrm
    clear hmay
    go_enter Try.func3, Try.ntmps3
    go_wp2_with fail
    refine (new_any _).mono ?_; rintro e w1 ⟨rfl, hf, hb⟩
    obtain ⟨F, hF⟩ : ∃ F, F = w.heap.size + 1 := ⟨_, rfl⟩
    obtain ⟨T, hT⟩ : ∃ T, T = w.heap.size := ⟨_, rfl⟩
    rw [← hF] at hf ⊢
    rw [← hT] at hf
    have HT := Lib.hid (show w.heap.size ≤ T by omega)
    clear hF hT
    go_wp2_with fail
    refine (cnew_no F T k m hk hm hmF _ hf).mono ?_; rintro e w2 ⟨rfl, hf2, hr⟩
    have L2 := Lib.hid (Lw.of hb HT.out hr hf2)
    clear hf hb hf2 hr
    go_wp2_with fail
    refine (hrm _).mono ?_; clear hrm; rintro e w3 ⟨rfl, hw3⟩
    obtain rfl : w2 = w3 := hw3.symm
    go_wp2_with fail
    refine (goes7_any _).mono ?_; rintro e wz ⟨rfl, hbz⟩
    have LZ := Lib.hid (L2.out.later hbz)
    clear hbz
    go_wp2_with fail
    go_ret
    exact ⟨rfl, LZ.out.bel⟩
end Go.Proofs.Ytjacdabhlnfbkaa
