/-
  DecodeTells returns true, whatever its arguments. No condition.
-/
import Derived.Test.YtgoomiimlfdcmaaGreatDmb
import Derived.Test.YtgoomiimlfdcmaaGreatCbd
namespace Go.Proofs.YtgoomiimlfdcmaaGreat
open Go.RowKit Go.Proofs
set_option linter.unusedVariables false

set_option maxRecDepth 100000 in
set_option maxHeartbeats 3200000 in
theorem decodeTells_walk (k m : Int) (A : Option Addr) (c : Nat) (rs : List (List UInt8)) (w : World) (hk : -9223372036854775808 ≤ k ∧ k < 9223372036854775808) (hm : -9223372036854775808 ≤ m ∧ m < 9223372036854775808) (hg : Gr w A rs.length c rs) :
    Calls Tryz.prog 3 #[.int .i64 k, .int .i64 m, .slice A rs.length c] w (SaysTrue w) := by
  have hlim := hg.lim
  unfold maxLen at hlim
  obtain ⟨n, hn⟩ : ∃ n, n = rs.length := ⟨_, rfl⟩
  rw [← hn] at hlim hg ⊢
  have Hg := Lib.hid hg; clear hg
  have Hn := Lib.hid hn; clear hn
  by_cases hmay : 1 ≤ k ∧ 1 ≤ m ∧ k + m ≤ 255
  · obtain ⟨K0, hK0⟩ : ∃ x : Nat, k = (x : Int) := ⟨k.toNat, by omega⟩
    obtain ⟨M0, hM0⟩ : ∃ x : Nat, m = (x : Int) := ⟨m.toNat, by omega⟩
    subst hK0; subst hM0
    have hb1 : 1 ≤ K0 := by omega
    have hb2 : 1 ≤ M0 := by omega
    have hb3 : K0 + M0 ≤ 255 := by omega
    have hkw : IntKind.i64.wrap ((K0 : Int) + (M0 : Int)) = (K0 : Int) + (M0 : Int) := by rw [IntKind.wrap_i64]; omega
    have hrm := fun u => rmay_any (K0 : Int) (M0 : Int) hk hm u
    rw [mayB_t hmay] at hrm
    clear hmay hk hm
    by_cases h24 : (16 : Int) < (K0 : Int) + (M0 : Int)
    · go_enter Tryz.func3, Tryz.ntmps3
      go_wp2_with fail
      refine (new_any _).mono ?_; rintro e w1 ⟨rfl, hf, hb⟩
      obtain ⟨F, hF⟩ : ∃ F, F = w.heap.size + 1 := ⟨_, rfl⟩
      obtain ⟨T, hT⟩ : ∃ T, T = w.heap.size := ⟨_, rfl⟩
      rw [← hF] at hf ⊢
      rw [← hT] at hf
      have HT := Lib.hid (show w.heap.size ≤ T by omega)
      clear hF hT
      go_wp2_with fail
      refine (cnew_at F T (K0 : Int) (M0 : Int) K0 M0 rfl rfl ⟨hb1, hb2, hb3⟩ _ hf).mono ?_; rintro e w2 ⟨C, rfl, hC, hr⟩
      have L2 := Lib.hid (Lw.of hb HT.out hr hC.fld)
      have C2 := Lib.hid hC
      clear hf hb hC hr
      go_wp2_with fail
      refine (hrm _).mono ?_; clear hrm; rintro e w3 ⟨rfl, rfl⟩
      go_wp2_with fail
      refine (decodes_any _).mono ?_; rintro e wz ⟨rfl, hbz⟩
      have LZ := Lib.hid (L2.out.later hbz)
      clear hbz
      go_wp2_with fail
      go_ret
      exact ⟨rfl, LZ.out.bel⟩
    · go_enter Tryz.func3, Tryz.ntmps3
      go_wp2_with fail
      refine (new_any _).mono ?_; rintro e w1 ⟨rfl, hf, hb⟩
      obtain ⟨F, hF⟩ : ∃ F, F = w.heap.size + 1 := ⟨_, rfl⟩
      obtain ⟨T, hT⟩ : ∃ T, T = w.heap.size := ⟨_, rfl⟩
      rw [← hF] at hf ⊢
      rw [← hT] at hf
      have HT := Lib.hid (show w.heap.size ≤ T by omega)
      clear hF hT
      go_wp2_with fail
      refine (cnew_at F T (K0 : Int) (M0 : Int) K0 M0 rfl rfl ⟨hb1, hb2, hb3⟩ _ hf).mono ?_; rintro e w2 ⟨C, rfl, hC, hr⟩
      have L2 := Lib.hid (Lw.of hb HT.out hr hC.fld)
      have C2 := Lib.hid hC
      clear hf hb hC hr
      go_wp2_with fail
      refine (hrm _).mono ?_; clear hrm; rintro e w3 ⟨rfl, rfl⟩
      have G2 := Lib.hid (Hg.out.later L2.out.bel)
      go_wp2_with fail
      refine (few5_any 0 A n c rs _ G2.out).mono ?_; rintro e w4 ⟨rfl, bf, rfl, hfew⟩
      cases bf
      · clear hfew
        go_wp2_with fail
        refine (decodes_any _).mono ?_; rintro e wz ⟨rfl, hbz⟩
        have LZ := Lib.hid (L2.out.later hbz)
        clear hbz
        go_wp2_with fail
        go_ret
        exact ⟨rfl, LZ.out.bel⟩
      · obtain ⟨hn260, hrows⟩ := hfew rfl
        have HW := Lib.hid (show ∀ r ∈ rs, r.length ≤ 1048576 from fun r hr => Nat.le_trans (hrows r hr) (by decide))
        have hn1 : n ≤ 1048576 := by omega
        clear hfew hrows
        by_cases hx0 : rightX K0 M0 rs = 0
        · have Hx0 := Lib.hid hx0
          clear hx0
          go_wp2_with fail
          have hkm : (((K0 + M0 : Nat)) : Int) = (K0 : Int) + (M0 : Int) := by simp
          refine (ddata_ok C K0 M0 F T A n c rs _ C2.out G2.out HW.out hn1).mono ?_; rintro e w5 ⟨hR, hb5⟩
          rcases hR with ⟨hno, _⟩ | ⟨_, A5, c5, X5, hX5, rfl, hP⟩
          · exact absurd Hx0.out hno
          have P5 := Lib.hid hP
          have X5h := Lib.hid hX5
          clear hP hX5
          have L5 := Lib.hid (L2.out.later hb5)
          have C5 := Lib.hid (C2.out.later hb5)
          have G5 := Lib.hid (G2.out.later hb5)
          clear hb5 L2 C2 G2
          go_wp2_with fail
          refine (rdata_yes K0 M0 hb1 hb3 A n c rs X5 _ G5.out hn1 HW.out Hx0.out X5h.out).mono ?_; rintro e w6 ⟨⟨g6, rfl, hQ⟩, hb6⟩
          have Q6 := Lib.hid hQ
          clear hQ
          have L6 := Lib.hid (L5.out.later hb6)
          have C6 := Lib.hid (C5.out.later hb6)
          have G6 := Lib.hid (G5.out.later hb6)
          have P6 := Lib.hid (P5.out.later hb6)
          clear hb6 L5 C5 G5 P5
          go_wp2_with fail
          refine (dall_ok C K0 M0 F T A n c rs _ C6.out G6.out HW.out hn1).mono ?_; rintro e w7 ⟨hR, hb7⟩
          rcases hR with ⟨hno, _⟩ | ⟨_, A7, c7, X7, hX7, rfl, hU⟩
          · exact absurd Hx0.out hno
          have U7 := Lib.hid hU
          have X7h := Lib.hid hX7
          clear hU hX7
          have L7 := Lib.hid (L6.out.later hb7)
          have C7 := Lib.hid (C6.out.later hb7)
          have G7 := Lib.hid (G6.out.later hb7)
          have P7 := Lib.hid (P6.out.later hb7)
          have Q7 := Lib.hid (Q6.out.later hb7)
          clear hb7 L6 C6 G6 P6 Q6
          go_wp2_with fail
          refine (rall6_yes K0 M0 hb1 hb3 A n c rs X7 _ G7.out hn1 HW.out Hx0.out X7h.out).mono ?_; rintro e w8 ⟨⟨A8, c8, rfl, hV⟩, hb8⟩
          have V8 := Lib.hid hV
          clear hV
          have L8 := Lib.hid (L7.out.later hb8)
          have C8 := Lib.hid (C7.out.later hb8)
          have G8 := Lib.hid (G7.out.later hb8)
          have P8 := Lib.hid (P7.out.later hb8)
          have Q8 := Lib.hid (Q7.out.later hb8)
          have U8 := Lib.hid (U7.out.later hb8)
          clear hb8 L7 C7 G7 P7 Q7 U7
          go_wp2_with fail
          refine (rsame5_any _ _ _ _ _ _ _ _ _ P8.out Q8.out).mono ?_; rintro e w9 ⟨rfl, hb9⟩
          rw [decide_eq_true rfl]
          have L9 := Lib.hid (L8.out.later hb9)
          have C9 := Lib.hid (C8.out.later hb9)
          have G9 := Lib.hid (G8.out.later hb9)
          have U9 := Lib.hid (U8.out.later hb9)
          have V9 := Lib.hid (V8.out.later hb9)
          clear hb9 L8 C8 G8 U8 V8
          clear P8 Q8
          go_wp2_with fail
          refine (rsame5_any _ _ _ _ _ _ _ _ _ U9.out V9.out).mono ?_; rintro e w10 ⟨rfl, hb10⟩
          rw [decide_eq_true rfl]
          have L10 := Lib.hid (L9.out.later hb10)
          have C10 := Lib.hid (C9.out.later hb10)
          have G10 := Lib.hid (G9.out.later hb10)
          clear hb10 L9 C9 G9
          clear U9 V9
          go_wp2_with fail
          refine (decodes_any _).mono ?_; rintro e wz ⟨rfl, hbz⟩
          have LZ := Lib.hid (L10.out.later hbz)
          clear hbz
          go_wp2_with fail
          go_ret
          exact ⟨rfl, LZ.out.bel⟩
        · have Hx0 := Lib.hid hx0
          clear hx0
          obtain ⟨x, hxd⟩ : ∃ x, x = rightX K0 M0 rs := ⟨_, rfl⟩
          have hda := fun u hc hg => ddata_ok C K0 M0 F T A n c rs u hc hg HW.out hn1
          have hdr := fun u hg => rdata_no K0 M0 hb3 A n c rs u hg hn1 Hx0.out
          have haa := fun u hc hg => dall_ok C K0 M0 F T A n c rs u hc hg HW.out hn1
          have har := fun u hg => rall6_no K0 M0 hb3 A n c rs u hg hn1 Hx0.out
          have hx1 : x ≠ 0 := by rw [hxd]; exact Hx0.out
          rw [← hxd] at hda hdr haa har
          have Hx1 := Lib.hid hx1
          clear hxd hx1
          go_wp2_with fail
          refine (hda _ C2.out G2.out).mono ?_; clear hda; rintro e w5 ⟨hR, hb5⟩
          rcases hR with ⟨_, rfl⟩ | ⟨hno, _⟩
          rotate_left
          · exact absurd hno Hx1.out
          have L5 := Lib.hid (L2.out.later hb5)
          have C5 := Lib.hid (C2.out.later hb5)
          have G5 := Lib.hid (G2.out.later hb5)
          clear hb5 L2 C2 G2
          go_wp2_with fail
          refine (hdr _ G5.out).mono ?_; clear hdr; rintro e w6 ⟨rfl, hb6⟩
          have L6 := Lib.hid (L5.out.later hb6)
          have C6 := Lib.hid (C5.out.later hb6)
          have G6 := Lib.hid (G5.out.later hb6)
          clear hb6 L5 C5 G5
          go_wp2_with fail
          refine (haa _ C6.out G6.out).mono ?_; clear haa; rintro e w7 ⟨hR, hb7⟩
          rcases hR with ⟨_, rfl⟩ | ⟨hno, _⟩
          rotate_left
          · exact absurd hno Hx1.out
          have L7 := Lib.hid (L6.out.later hb7)
          have C7 := Lib.hid (C6.out.later hb7)
          have G7 := Lib.hid (G6.out.later hb7)
          clear hb7 L6 C6 G6
          go_wp2_with fail
          refine (har _ G7.out).mono ?_; clear har; rintro e w8 ⟨rfl, hb8⟩
          have L8 := Lib.hid (L7.out.later hb8)
          have C8 := Lib.hid (C7.out.later hb8)
          have G8 := Lib.hid (G7.out.later hb8)
          clear hb8 L7 C7 G7
          go_wp2_with fail
          refine (rsame5_any none 0 0 [] none 0 0 [] _ (Gr.nil _ 0 (by decide)) (Gr.nil _ 0 (by decide))).mono ?_; rintro e w9 ⟨rfl, hb9⟩
          rw [show decide (([] : List (List UInt8)) = []) = true from rfl]
          have L9 := Lib.hid (L8.out.later hb9)
          have C9 := Lib.hid (C8.out.later hb9)
          have G9 := Lib.hid (G8.out.later hb9)
          clear hb9 L8 C8 G8
          go_wp2_with fail
          refine (rsame5_any none 0 0 [] none 0 0 [] _ (Gr.nil _ 0 (by decide)) (Gr.nil _ 0 (by decide))).mono ?_; rintro e w10 ⟨rfl, hb10⟩
          rw [show decide (([] : List (List UInt8)) = []) = true from rfl]
          have L10 := Lib.hid (L9.out.later hb10)
          have C10 := Lib.hid (C9.out.later hb10)
          have G10 := Lib.hid (G9.out.later hb10)
          clear hb10 L9 C9 G9
          go_wp2_with fail
          refine (decodes_any _).mono ?_; rintro e wz ⟨rfl, hbz⟩
          have LZ := Lib.hid (L10.out.later hbz)
          clear hbz
          go_wp2_with fail
          go_ret
          exact ⟨rfl, LZ.out.bel⟩
  · have hmF := mayB_f hmay
    have hrm := fun u => rmay_any k m hk hm u
    rw [hmF] at hrm
    clear hmay
    go_enter Tryz.func3, Tryz.ntmps3
    go_wp2_with fail
    refine (new_any _).mono ?_; rintro e w1 ⟨rfl, hf, hb⟩
    obtain ⟨F, hF⟩ : ∃ F, F = w.heap.size + 1 := ⟨_, rfl⟩
    obtain ⟨T, hT⟩ : ∃ T, T = w.heap.size := ⟨_, rfl⟩
    rw [← hF] at hf ⊢
    rw [← hT] at hf
    have HT := Lib.hid (show w.heap.size ≤ T by omega)
    clear hF hT
    go_wp2_with fail
    refine (cnew_no F T k m hk hm hmF _ hf).mono ?_; rintro e w2 ⟨rfl, hf2, hr⟩
    have L2 := Lib.hid (Lw.of hb HT.out hr hf2)
    clear hf hb hf2 hr
    go_wp2_with fail
    refine (hrm _).mono ?_; clear hrm; rintro e w3 ⟨rfl, rfl⟩
    go_wp2_with fail
    refine (decodes_any _).mono ?_; rintro e wz ⟨rfl, hbz⟩
    have LZ := Lib.hid (L2.out.later hbz)
    clear hbz
    go_wp2_with fail
    go_ret
    exact ⟨rfl, LZ.out.bel⟩
end Go.Proofs.YtgoomiimlfdcmaaGreat
