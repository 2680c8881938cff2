/-
  CodeAdds returns true, whatever its arguments. No condition.
-/
import Derived.Test.YtgnkgogdkplcoaaCcg
import Derived.Test.YtgnkgogdkplcoaaCch
namespace Go.Proofs.Ytgnkgogdkplcoaa
open Go.RowKit Go.Proofs
set_option linter.unusedVariables false

set_option maxRecDepth 100000 in
set_option maxHeartbeats 3200000 in
theorem codeAdds_walk (k m : Int) (A : Option Addr) (pa : Nat) (a : List UInt8) (B : Option Addr) (pb : Nat) (b : List UInt8) (w : World) (hk : -9223372036854775808 ≤ k ∧ k < 9223372036854775808) (hm : -9223372036854775808 ≤ m ∧ m < 9223372036854775808) (ha : Sl w 1 A a.length pa (cells a)) (hb : Sl w 1 B b.length pb (cells b)) :
    Calls Try.prog 7 #[.int .i64 k, .int .i64 m, .slice A a.length pa, .slice B b.length pb] w (SaysTrue w) := by
  have hlima := ha.lim
  have hlimb := hb.lim
  unfold maxLen at hlima hlimb
  obtain ⟨na, hna⟩ : ∃ n, n = a.length := ⟨_, rfl⟩
  obtain ⟨nb, hnb⟩ : ∃ n, n = b.length := ⟨_, rfl⟩
  rw [← hna] at hlima ha ⊢
  rw [← hnb] at hlimb hb ⊢
  have Ha := Lib.hid ha
  have Hb := Lib.hid hb
  clear hna hnb ha hb
  by_cases hmay : 1 ≤ k ∧ 1 ≤ m ∧ k + m ≤ 255
  · obtain ⟨K0, hK0⟩ : ∃ x : Nat, k = (x : Int) := ⟨k.toNat, by omega⟩
    obtain ⟨M0, hM0⟩ : ∃ x : Nat, m = (x : Int) := ⟨m.toNat, by omega⟩
    subst hK0; subst hM0
    have hb1 : 1 ≤ K0 := by omega
    have hb2 : 1 ≤ M0 := by omega
    have hb3 : K0 + M0 ≤ 255 := by omega
    have hkw : IntKind.i64.wrap ((K0 : Int) + (M0 : Int)) = (K0 : Int) + (M0 : Int) := by rw [IntKind.wrap_i64]; omega
    clear hmay hk hm
    by_cases h24 : (24 : Int) < (K0 : Int) + (M0 : Int)
    · go_enter Try.func7, Try.ntmps7
      go_wp2_with fail
      refine (new_any _).mono ?_; rintro e w1 ⟨rfl, hf, hb⟩
      obtain ⟨F, hF⟩ : ∃ F, F = w.heap.size + 1 := ⟨_, rfl⟩
      obtain ⟨T, hT⟩ : ∃ T, T = w.heap.size := ⟨_, rfl⟩
      rw [← hF] at hf ⊢
      rw [← hT] at hf
      have HT := Lib.hid (show w.heap.size ≤ T by omega)
      clear hF hT
      go_wp2_with fail
      refine (cnew_at F T (K0 : Int) (M0 : Int) K0 M0 rfl rfl ⟨hb1, hb2, hb3⟩ _ hf).mono ?_; rintro e w2 ⟨C, rfl, hC, hr⟩
      have L2 := Lib.hid (Lw.of hb HT.out hr hC.fld)
      have C2 := Lib.hid hC
      clear hf hb hC hr
      go_wp2_with fail
      refine (codes_any _).mono ?_; rintro e wz ⟨rfl, hbz⟩
      have LZ := Lib.hid (L2.out.later hbz)
      clear hbz
      go_wp2_with fail
      go_ret
      exact ⟨rfl, LZ.out.bel⟩
    · by_cases hta : (3000 : Int) < (na : Int)
      · go_enter Try.func7, Try.ntmps7
        go_wp2_with fail
        refine (new_any _).mono ?_; rintro e w1 ⟨rfl, hf, hb⟩
        obtain ⟨F, hF⟩ : ∃ F, F = w.heap.size + 1 := ⟨_, rfl⟩
        obtain ⟨T, hT⟩ : ∃ T, T = w.heap.size := ⟨_, rfl⟩
        rw [← hF] at hf ⊢
        rw [← hT] at hf
        have HT := Lib.hid (show w.heap.size ≤ T by omega)
        clear hF hT
        go_wp2_with fail
        refine (cnew_at F T (K0 : Int) (M0 : Int) K0 M0 rfl rfl ⟨hb1, hb2, hb3⟩ _ hf).mono ?_; rintro e w2 ⟨C, rfl, hC, hr⟩
        have L2 := Lib.hid (Lw.of hb HT.out hr hC.fld)
        have C2 := Lib.hid hC
        clear hf hb hC hr
        go_wp2_with fail
        refine (codes_any _).mono ?_; rintro e wz ⟨rfl, hbz⟩
        have LZ := Lib.hid (L2.out.later hbz)
        clear hbz
        go_wp2_with fail
        go_ret
        exact ⟨rfl, LZ.out.bel⟩
      · by_cases htb : (3000 : Int) < (nb : Int)
        · go_enter Try.func7, Try.ntmps7
          go_wp2_with fail
          refine (new_any _).mono ?_; rintro e w1 ⟨rfl, hf, hb⟩
          obtain ⟨F, hF⟩ : ∃ F, F = w.heap.size + 1 := ⟨_, rfl⟩
          obtain ⟨T, hT⟩ : ∃ T, T = w.heap.size := ⟨_, rfl⟩
          rw [← hF] at hf ⊢
          rw [← hT] at hf
          have HT := Lib.hid (show w.heap.size ≤ T by omega)
          clear hF hT
          go_wp2_with fail
          refine (cnew_at F T (K0 : Int) (M0 : Int) K0 M0 rfl rfl ⟨hb1, hb2, hb3⟩ _ hf).mono ?_; rintro e w2 ⟨C, rfl, hC, hr⟩
          have L2 := Lib.hid (Lw.of hb HT.out hr hC.fld)
          have C2 := Lib.hid hC
          clear hf hb hC hr
          go_wp2_with fail
          refine (codes_any _).mono ?_; rintro e wz ⟨rfl, hbz⟩
          have LZ := Lib.hid (L2.out.later hbz)
          clear hbz
          go_wp2_with fail
          go_ret
          exact ⟨rfl, LZ.out.bel⟩
        · rcases Nat.lt_or_ge na nb with hmx | hmx
          · exact codeAdds_nb K0 M0 na nb A pa a B pb b w hb1 hb2 hb3 h24 hta htb (by omega) Ha.out Hb.out
          · exact codeAdds_na K0 M0 na nb A pa a B pb b w hb1 hb2 hb3 h24 hta htb (by omega) Ha.out Hb.out
  · have hno : mayB k m = false := mayB_f hmay
    have Hno := Lib.hid hno; clear hno hmay
    go_enter Try.func7, Try.ntmps7
    go_wp2_with fail
    refine (new_any _).mono ?_; rintro e w1 ⟨rfl, hf, hb⟩
    obtain ⟨F, hF⟩ : ∃ F, F = w.heap.size + 1 := ⟨_, rfl⟩
    obtain ⟨T, hT⟩ : ∃ T, T = w.heap.size := ⟨_, rfl⟩
    rw [← hF] at hf ⊢
    rw [← hT] at hf
    have HT := Lib.hid (show w.heap.size ≤ T by omega)
    clear hF hT
    go_wp2_with fail
    refine (cnew_no F T k m hk hm Hno.out _ hf).mono ?_; rintro e w2 ⟨rfl, hf2, hr⟩
    have L2 := Lib.hid (Lw.of hb HT.out hr hf2)
    clear hf hb hf2 hr
    go_wp2_with fail
    refine (codes_any _).mono ?_; rintro e wz ⟨rfl, hbz⟩
    have LZ := Lib.hid (L2.out.later hbz)
    clear hbz
    go_wp2_with fail
    go_ret
    exact ⟨rfl, LZ.out.bel⟩
end Go.Proofs.Ytgnkgogdkplcoaa
