/-
  CodeEncodes returns true, whatever its arguments. No condition.
-/
import Derived.Test.YtgnkgogdkplcoaaCca
namespace Go.Proofs.Ytgnkgogdkplcoaa
open Go.RowKit Go.Proofs
set_option linter.unusedVariables false

theorem allL_tail (k m : Nat) (rs : List (List UInt8)) (hl : rs.length = k) (hlv : levelB rs = true) : ((allL k rs (k + m)).drop k).take (k + m - k) = parL k rs m := by
  rw [allL_eq k m rs hl hlv, List.drop_left' hl, show k + m - k = m by omega, List.take_of_length_le (by rw [parL_length]; exact Nat.le_refl _)]
theorem evenB_len {rs : List (List UInt8)} {k : Nat} (h : evenB rs (k : Int) = true) : rs.length = k ∧ levelB rs = true := by
  rw [evenB, Bool.and_eq_true] at h
  have := of_decide_eq_true h.1
  exact ⟨by omega, h.2⟩

set_option maxRecDepth 100000 in
set_option maxHeartbeats 3200000 in
theorem codeEncodes_walk (k m : Int) (A : Option Addr) (c : Nat) (rs : List (List UInt8)) (w : World) (hk : -9223372036854775808 ≤ k ∧ k < 9223372036854775808) (hm : -9223372036854775808 ≤ m ∧ m < 9223372036854775808) (hg : Gr w A rs.length c rs) :
    Calls Try.prog 4 #[.int .i64 k, .int .i64 m, .slice A rs.length c] w (SaysTrue w) := by
  have hlim := hg.lim
  unfold maxLen at hlim
  obtain ⟨n, hn⟩ : ∃ n, n = rs.length := ⟨_, rfl⟩
  rw [← hn] at hlim hg ⊢
  have Hg := Lib.hid hg; clear hg
  have Hn := Lib.hid hn; clear hn
  by_cases hmay : 1 ≤ k ∧ 1 ≤ m ∧ k + m ≤ 255
  · obtain ⟨K0, hK0⟩ : ∃ x : Nat, k = (x : Int) := ⟨k.toNat, by omega⟩
    obtain ⟨M0, hM0⟩ : ∃ x : Nat, m = (x : Int) := ⟨m.toNat, by omega⟩
    subst hK0; subst hM0
    have hb1 : 1 ≤ K0 := by omega
    have hb2 : 1 ≤ M0 := by omega
    have hb3 : K0 + M0 ≤ 255 := by omega
    have hkw : IntKind.i64.wrap ((K0 : Int) + (M0 : Int)) = (K0 : Int) + (M0 : Int) := by rw [IntKind.wrap_i64]; omega
    have hrm := fun u => rmay_any (K0 : Int) (M0 : Int) hk hm u
    rw [mayB_t hmay] at hrm
    clear hmay hk hm
    by_cases h24 : (24 : Int) < (K0 : Int) + (M0 : Int)
    · go_enter Try.func4, Try.ntmps4
      go_wp2_with fail
      refine (new_any _).mono ?_; rintro e w1 ⟨rfl, hf, hb⟩
      obtain ⟨F, hF⟩ : ∃ F, F = w.heap.size + 1 := ⟨_, rfl⟩
      obtain ⟨T, hT⟩ : ∃ T, T = w.heap.size := ⟨_, rfl⟩
      rw [← hF] at hf ⊢
      rw [← hT] at hf
      have HT := Lib.hid (show w.heap.size ≤ T by omega)
      clear hF hT
      go_wp2_with fail
      refine (cnew_at F T (K0 : Int) (M0 : Int) K0 M0 rfl rfl ⟨hb1, hb2, hb3⟩ _ hf).mono ?_; rintro e w2 ⟨C, rfl, hC, hr⟩
      have L2 := Lib.hid (Lw.of hb HT.out hr hC.fld)
      have C2 := Lib.hid hC
      clear hf hb hC hr
      go_wp2_with fail
      refine (hrm _).mono ?_; clear hrm; rintro e w3 ⟨rfl, rfl⟩
      go_wp2_with fail
      refine (codes_any _).mono ?_; rintro e wz ⟨rfl, hbz⟩
      have LZ := Lib.hid (L2.out.later hbz)
      clear hbz
      go_wp2_with fail
      go_ret
      exact ⟨rfl, LZ.out.bel⟩
    · go_enter Try.func4, Try.ntmps4
      go_wp2_with fail
      refine (new_any _).mono ?_; rintro e w1 ⟨rfl, hf, hb⟩
      obtain ⟨F, hF⟩ : ∃ F, F = w.heap.size + 1 := ⟨_, rfl⟩
      obtain ⟨T, hT⟩ : ∃ T, T = w.heap.size := ⟨_, rfl⟩
      rw [← hF] at hf ⊢
      rw [← hT] at hf
      have HT := Lib.hid (show w.heap.size ≤ T by omega)
      clear hF hT
      go_wp2_with fail
      refine (cnew_at F T (K0 : Int) (M0 : Int) K0 M0 rfl rfl ⟨hb1, hb2, hb3⟩ _ hf).mono ?_; rintro e w2 ⟨C, rfl, hC, hr⟩
      have L2 := Lib.hid (Lw.of hb HT.out hr hC.fld)
      have C2 := Lib.hid hC
      clear hf hb hC hr
      go_wp2_with fail
      refine (hrm _).mono ?_; clear hrm; rintro e w3 ⟨rfl, rfl⟩
      have G2 := Lib.hid (Hg.out.later L2.out.bel)
      go_wp2_with fail
      refine (few5_any 0 A n c rs _ G2.out).mono ?_; rintro e w4 ⟨rfl, bf, rfl, hfew⟩
      cases bf
      · clear hfew
        go_wp2_with fail
        refine (codes_any _).mono ?_; rintro e wz ⟨rfl, hbz⟩
        have LZ := Lib.hid (L2.out.later hbz)
        clear hbz
        go_wp2_with fail
        go_ret
        exact ⟨rfl, LZ.out.bel⟩
      · obtain ⟨hn260, hrows⟩ := hfew rfl
        have hW : ∀ r ∈ rs, r.length ≤ 1048576 := fun r hr => Nat.le_trans (hrows r hr) (by decide)
        have HW := Lib.hid hW
        clear hfew hrows hW
        go_wp2_with fail
        refine (all_any C K0 M0 F T A n c rs _ C2.out G2.out HW.out).mono ?_; rintro e w5 ⟨hb5, hR⟩
        have L5 := Lib.hid (L2.out.later hb5)
        have C5 := Lib.hid (C2.out.later hb5)
        have G5 := Lib.hid (G2.out.later hb5)
        clear hb5 L2 C2 G2
        by_cases hev : evenB rs (K0 : Int) = true
        · rcases hR with ⟨hno, _⟩ | ⟨_, Aa, ca, rfl, hga⟩
          · rw [hev] at hno; cases hno
          have GA5 := Lib.hid hga; clear hga
          go_wp2_with fail
          refine (encode_any C K0 M0 F T A n c rs _ C5.out G5.out HW.out).mono ?_; rintro e w6 ⟨hb6, hR⟩
          rcases hR with ⟨hno, _⟩ | ⟨_, g, rfl, hgp⟩
          · rw [hev] at hno; cases hno
          have L6 := Lib.hid (L5.out.later hb6)
          have G6 := Lib.hid (G5.out.later hb6)
          have GA6 := Lib.hid (GA5.out.later hb6)
          have GP6 := Lib.hid hgp
          clear hb6 hgp L5 C5 G5 GA5
          go_wp2_with fail
          refine (rall_any K0 M0 A n c rs _ G6.out hb1 hb3 HW.out).mono ?_; rintro e w7 ⟨hb7, hR⟩
          rcases hR with ⟨hno, _⟩ | ⟨_, Ab, cb, rfl, hgb⟩
          · rw [hev] at hno; cases hno
          have L7 := Lib.hid (L6.out.later hb7)
          have GA7 := Lib.hid (GA6.out.later hb7)
          have GP7 := Lib.hid (GP6.out.later hb7)
          obtain ⟨hl, hlv⟩ := evenB_len hev
          have hsub := hgb.sub K0 (K0 + M0) (cb - K0) (by omega) (Nat.le_refl _) (by have := hgb.capLe; omega) (by have := hgb.capLe; omega)
          rw [allL_tail K0 M0 rs hl hlv, show K0 + M0 - K0 = M0 by omega] at hsub
          have hcb := hgb.capLe
          obtain ⟨bb, ob, rfl, _⟩ := hgb.at_ (by omega)
          rw [Option.map_some, Addr.add_lit] at hsub
          rw [allL_eq K0 M0 rs hl hlv] at hgb
          have GB7 := Lib.hid hgb
          have GS7 := Lib.hid hsub
          obtain ⟨hcb1, hcb2⟩ := hcb
          unfold maxLen at hcb2
          have Hev := Lib.hid hev
          clear hb7 hgb hsub hl hlv hev L6 G6 GA6 GP6
          go_wp2_with fail
          refine (rsame5_any Aa (K0 + M0) ca (rs ++ parL K0 rs M0) (some ⟨bb, ob, none⟩) (K0 + M0) cb (rs ++ parL K0 rs M0) _ GA7.out GB7.out).mono ?_; rintro e w8 ⟨rfl, hb8⟩
          rw [decide_eq_true rfl]
          have L8 := Lib.hid (L7.out.later hb8)
          have GP8 := Lib.hid (GP7.out.later hb8)
          have GS8 := Lib.hid (GS7.out.later hb8)
          have hkn : K0 ≤ K0 + M0 := by omega
          have hkc : K0 ≤ cb := by omega
          have hne : ¬ (cb = K0) := by omega
          have hsubn : K0 + M0 - K0 = M0 := by omega
          clear hb8 L7 GA7 GP7 GB7 GS7
          go_wp2_with fail
          refine (rsame5_any (some ⟨g, 0, none⟩) M0 M0 (parL K0 rs M0) (some ⟨bb, ob + K0, none⟩) M0 (cb - K0) (parL K0 rs M0) _ GP8.out GS8.out).mono ?_; rintro e w9 ⟨rfl, hb9⟩
          rw [decide_eq_true rfl]
          have L9 := Lib.hid (L8.out.later hb9)
          clear hb9 L8 GP8 GS8
          go_wp2_with fail
          refine (codes_any _).mono ?_; rintro e wz ⟨rfl, hbz⟩
          have LZ := Lib.hid (L9.out.later hbz)
          clear hbz
          go_wp2_with fail
          go_ret
          exact ⟨rfl, LZ.out.bel⟩
        · have hev' : evenB rs (K0 : Int) = false := by simpa using hev
          clear hev
          rcases hR with ⟨_, rfl⟩ | ⟨hno, _⟩
          case inr => rw [hev'] at hno; cases hno
          go_wp2_with fail
          refine (encode_any C K0 M0 F T A n c rs _ C5.out G5.out HW.out).mono ?_; rintro e w6 ⟨hb6, hR⟩
          rcases hR with ⟨_, rfl⟩ | ⟨hno, _⟩
          case inr => rw [hev'] at hno; cases hno
          have L6 := Lib.hid (L5.out.later hb6)
          have G6 := Lib.hid (G5.out.later hb6)
          clear hb6 L5 C5 G5
          go_wp2_with fail
          refine (rall_any K0 M0 A n c rs _ G6.out hb1 hb3 HW.out).mono ?_; rintro e w7 ⟨hb7, hR⟩
          rcases hR with ⟨_, rfl⟩ | ⟨hno, _⟩
          case inr => rw [hev'] at hno; cases hno
          have L7 := Lib.hid (L6.out.later hb7)
          have Hev := Lib.hid hev'
          clear hb7 hev' L6 G6
          go_wp2_with fail
          refine (rsame5_any none 0 0 [] none 0 0 [] _ (Gr.nil _ 0 (by decide)) (Gr.nil _ 0 (by decide))).mono ?_; rintro e w8 ⟨rfl, hb8⟩
          rw [decide_eq_true rfl]
          have L8 := Lib.hid (L7.out.later hb8)
          clear hb8 L7
          go_wp2_with fail
          refine (codes_any _).mono ?_; rintro e wz ⟨rfl, hbz⟩
          have LZ := Lib.hid (L8.out.later hbz)
          clear hbz
          go_wp2_with fail
          go_ret
          exact ⟨rfl, LZ.out.bel⟩
  · have hno : mayB k m = false := mayB_f hmay
    have hrm := fun u => rmay_any k m hk hm u
    rw [hno] at hrm
    have Hno := Lib.hid hno; clear hno hmay
    go_enter Try.func4, Try.ntmps4
    go_wp2_with fail
    refine (new_any _).mono ?_; rintro e w1 ⟨rfl, hf, hb⟩
    obtain ⟨F, hF⟩ : ∃ F, F = w.heap.size + 1 := ⟨_, rfl⟩
    obtain ⟨T, hT⟩ : ∃ T, T = w.heap.size := ⟨_, rfl⟩
    rw [← hF] at hf ⊢
    rw [← hT] at hf
    have HT := Lib.hid (show w.heap.size ≤ T by omega)
    clear hF hT
    go_wp2_with fail
    refine (cnew_no F T k m hk hm Hno.out _ hf).mono ?_; rintro e w2 ⟨rfl, hf2, hr⟩
    have L2 := Lib.hid (Lw.of hb HT.out hr hf2)
    clear hf hb hf2 hr
    go_wp2_with fail
    refine (hrm _).mono ?_; clear hrm; rintro e w3 ⟨rfl, rfl⟩
    go_wp2_with fail
    refine (codes_any _).mono ?_; rintro e wz ⟨rfl, hbz⟩
    have LZ := Lib.hid (L2.out.later hbz)
    clear hbz
    go_wp2_with fail
    go_ret
    exact ⟨rfl, LZ.out.bel⟩
end Go.Proofs.Ytgnkgogdkplcoaa
