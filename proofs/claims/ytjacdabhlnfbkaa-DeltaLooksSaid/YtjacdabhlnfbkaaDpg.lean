/-
  DeltaLooks returns true, whatever its arguments. No condition. (Written by gen_dpf.py.)
-/
import Derived.Test.YtjacdabhlnfbkaaDpe
namespace Go.Proofs.Ytjacdabhlnfbkaa
open Go.RowKit Go.Proofs
set_option linter.unusedVariables false

set_option maxRecDepth 100000 in
set_option maxHeartbeats 3200000 in
theorem deltaLooks_walk (k m : Int) (A : Option Addr) (c : Nat) (rs : List (List UInt8)) (w : World) (hk : -9223372036854775808 ≤ k ∧ k < 9223372036854775808) (hm : -9223372036854775808 ≤ m ∧ m < 9223372036854775808) (hg : Gr w A rs.length c rs) :
    Calls Try.prog 4 #[.int .i64 k, .int .i64 m, .slice A rs.length c] w (SaysTrue w) := by
  have hlim := hg.lim
  unfold maxLen at hlim
  obtain ⟨n, hn⟩ : ∃ n, n = rs.length := ⟨_, rfl⟩
  rw [← hn] at hlim hg ⊢
  have Hg := Lib.hid hg
  clear hg hn
  by_cases hmay : 1 ≤ k ∧ 1 ≤ m ∧ k + m ≤ 255
  · obtain ⟨K0, hK0⟩ : ∃ x : Nat, k = (x : Int) := ⟨k.toNat, by omega⟩
    obtain ⟨M0, hM0⟩ : ∃ x : Nat, m = (x : Int) := ⟨m.toNat, by omega⟩
    subst hK0; subst hM0
    have hb1 : 1 ≤ K0 := by omega
    have hb2 : 1 ≤ M0 := by omega
    have hb3 : K0 + M0 ≤ 255 := by omega
    have hkw : IntKind.i64.wrap ((K0 : Int) + (M0 : Int)) = (K0 : Int) + (M0 : Int) := by rw [IntKind.wrap_i64]; omega
    have hrm := fun u => rmay_any (K0 : Int) (M0 : Int) hk hm u
    rw [mayB_t hmay] at hrm
    clear hmay hk hm
    by_cases h24 : (24 : Int) < (K0 : Int) + (M0 : Int)
    · go_enter Try.func4, Try.ntmps4
      go_wp2_with fail
      refine (new_any _).mono ?_; rintro e w1 ⟨rfl, hf, hb⟩
      obtain ⟨F, hF⟩ : ∃ F, F = w.heap.size + 1 := ⟨_, rfl⟩
      obtain ⟨T, hT⟩ : ∃ T, T = w.heap.size := ⟨_, rfl⟩
      rw [← hF] at hf ⊢
      rw [← hT] at hf
      have HT := Lib.hid (show w.heap.size ≤ T by omega)
      clear hF hT
      go_wp2_with fail
      refine (cnew_at F T (K0 : Int) (M0 : Int) K0 M0 rfl rfl ⟨hb1, hb2, hb3⟩ _ hf).mono ?_; rintro e w2 ⟨C, rfl, hC, hr⟩
      have L2 := Lib.hid (Lw.of hb HT.out hr hC.fld)
      have C2 := Lib.hid hC
      clear hf hb hC hr
      go_wp2_with fail
      refine (hrm _).mono ?_; clear hrm; rintro e w3 ⟨rfl, hw3⟩
      obtain rfl : w2 = w3 := hw3.symm
      have G2 := Lib.hid (Hg.out.later L2.out.bel)
      go_wp2_with fail
      refine (goes7_any _).mono ?_; rintro e wz ⟨rfl, hbz⟩
      have LZ := Lib.hid (L2.out.later hbz)
      clear hbz
      go_wp2_with fail
      go_ret
      exact ⟨rfl, LZ.out.bel⟩
    · go_enter Try.func4, Try.ntmps4
      go_wp2_with fail
      refine (new_any _).mono ?_; rintro e w1 ⟨rfl, hf, hb⟩
      obtain ⟨F, hF⟩ : ∃ F, F = w.heap.size + 1 := ⟨_, rfl⟩
      obtain ⟨T, hT⟩ : ∃ T, T = w.heap.size := ⟨_, rfl⟩
      rw [← hF] at hf ⊢
      rw [← hT] at hf
      have HT := Lib.hid (show w.heap.size ≤ T by omega)
      clear hF hT
      go_wp2_with fail
      refine (cnew_at F T (K0 : Int) (M0 : Int) K0 M0 rfl rfl ⟨hb1, hb2, hb3⟩ _ hf).mono ?_; rintro e w2 ⟨C, rfl, hC, hr⟩
      have L2 := Lib.hid (Lw.of hb HT.out hr hC.fld)
      have C2 := Lib.hid hC
      clear hf hb hC hr
      go_wp2_with fail
      refine (hrm _).mono ?_; clear hrm; rintro e w3 ⟨rfl, hw3⟩
      obtain rfl : w2 = w3 := hw3.symm
      have G2 := Lib.hid (Hg.out.later L2.out.bel)
      go_wp2_with fail
      refine (few5_any 0 A n c rs _ G2.out).mono ?_; rintro e w4 ⟨hw4, bf, rfl, hfew⟩
      obtain rfl : w2 = w4 := hw4.symm
      cases bf
      · clear hfew
        go_wp2_with fail
        refine (goes7_any _).mono ?_; rintro e wz ⟨rfl, hbz⟩
        have LZ := Lib.hid (L2.out.later hbz)
        clear hbz
        go_wp2_with fail
        go_ret
        exact ⟨rfl, LZ.out.bel⟩
      · obtain ⟨hn260, hrows⟩ := hfew rfl
        have HW := Lib.hid (show ∀ r ∈ rs, r.length ≤ 1048576 from fun r hr => Nat.le_trans (hrows r hr) (by decide))
        have hn1 : n ≤ 1048576 := by omega
        clear hfew hrows
        by_cases hev : evenB rs ((K0 : Int) + (M0 : Int)) = true
        · have Hev := Lib.hid hev
          clear hev
          have hod := fun u hc hg => doff_any C K0 M0 F T A n c rs u hc hg HW.out
          have hor := fun u hg => roff_any K0 M0 A n c rs u hb1 hb3 hg HW.out
          have hhd := fun u hc hg => dholds_any C K0 M0 F T A n c rs u hc hg HW.out
          go_wp2_with fail
          refine (hod _ C2.out G2.out).mono ?_; clear hod; rintro e w5 ⟨hR, hb5⟩
          rcases hR with ⟨hno, _⟩ | ⟨_, A5, q5, c5, rfl, hP⟩
          · rw [Hev.out] at hno; cases hno
          have P5 := Lib.hid hP
          clear hP
          have L5 := Lib.hid (L2.out.later hb5)
          have C5 := Lib.hid (C2.out.later hb5)
          have G5 := Lib.hid (G2.out.later hb5)
          clear hb5 L2 C2 G2
          go_wp2_with fail
          refine (hor _ G5.out).mono ?_; clear hor; rintro e w6 ⟨hR, hb6⟩
          rcases hR with ⟨hno, _⟩ | ⟨_, A6, q6, c6, rfl, hQ⟩
          · rw [Hev.out] at hno; cases hno
          have hq := hQ.len
          rw [ncells_length, Nat.mul_one] at hq
          have Q6 := Lib.hid hQ
          have Hq := Lib.hid hq
          clear hQ hq
          have L6 := Lib.hid (L5.out.later hb6)
          have C6 := Lib.hid (C5.out.later hb6)
          have G6 := Lib.hid (G5.out.later hb6)
          have P6 := Lib.hid (P5.out.below hb6 (Nat.le_refl _))
          clear hb6 L5 C5 G5 P5
          go_wp2_with fail
          refine (rints_any _ _ _ _ _ _ _ _ _ P6.out Q6.out).mono ?_; rintro e w7 ⟨rfl, hb7⟩
          rw [decide_eq_true rfl]
          have L7 := Lib.hid (L6.out.later hb7)
          have C7 := Lib.hid (C6.out.later hb7)
          have G7 := Lib.hid (G6.out.later hb7)
          clear hb7 L6 C6 G6
          clear P6 Q6
          by_cases hq0 : q6 = 0
          · have hhv : holdsB K0 M0 rs = true := by rw [holdsB, Hev.out, decide_eq_true (List.eq_nil_of_length_eq_zero (by have := Hq.out; omega))]; rfl
            simp only [hhv] at hhd
            have hz : ((q6 : Int) == 0) = true := by simp [hq0]
            have Hq0 := Lib.hid hq0
            clear hhv hq0
            go_wp2_with fail
            refine (hhd _ C7.out G7.out).mono ?_; clear hhd; rintro e w8 ⟨rfl, hb8⟩
            have L8 := Lib.hid (L7.out.later hb8)
            have C8 := Lib.hid (C7.out.later hb8)
            have G8 := Lib.hid (G7.out.later hb8)
            clear hb8 L7 C7 G7
            go_wp2_with fail
            refine (goes7_any _).mono ?_; rintro e wz ⟨rfl, hbz⟩
            have LZ := Lib.hid (L8.out.later hbz)
            clear hbz
            go_wp2_with fail
            go_ret
            exact ⟨rfl, LZ.out.bel⟩
          · have hhv : holdsB K0 M0 rs = false := by rw [holdsB, Hev.out, decide_eq_false (fun e => by have := Hq.out; rw [e] at this; simp at this; omega)]; rfl
            simp only [hhv] at hhd
            have hz : ((q6 : Int) == 0) = false := by simp; omega
            have Hq0 := Lib.hid hq0
            clear hhv hq0
            go_wp2_with fail
            refine (hhd _ C7.out G7.out).mono ?_; clear hhd; rintro e w8 ⟨rfl, hb8⟩
            have L8 := Lib.hid (L7.out.later hb8)
            have C8 := Lib.hid (C7.out.later hb8)
            have G8 := Lib.hid (G7.out.later hb8)
            clear hb8 L7 C7 G7
            go_wp2_with fail
            refine (goes7_any _).mono ?_; rintro e wz ⟨rfl, hbz⟩
            have LZ := Lib.hid (L8.out.later hbz)
            clear hbz
            go_wp2_with fail
            go_ret
            exact ⟨rfl, LZ.out.bel⟩
        · have Hev := Lib.hid (show evenB rs ((K0 : Int) + (M0 : Int)) = false by simpa using hev)
          clear hev
          have hod := fun u hc hg => doff_any C K0 M0 F T A n c rs u hc hg HW.out
          have hor := fun u hg => roff_any K0 M0 A n c rs u hb1 hb3 hg HW.out
          have hhd := fun u hc hg => dholds_any C K0 M0 F T A n c rs u hc hg HW.out
          have hhv : holdsB K0 M0 rs = false := by rw [holdsB, Hev.out]; rfl
          simp only [hhv] at hhd
          clear hhv
          go_wp2_with fail
          refine (hod _ C2.out G2.out).mono ?_; clear hod; rintro e w5 ⟨hR, hb5⟩
          rcases hR with ⟨_, rfl⟩ | ⟨hno, _⟩
          rotate_left
          · rw [Hev.out] at hno; cases hno
          have L5 := Lib.hid (L2.out.later hb5)
          have C5 := Lib.hid (C2.out.later hb5)
          have G5 := Lib.hid (G2.out.later hb5)
          clear hb5 L2 C2 G2
          go_wp2_with fail
          refine (hor _ G5.out).mono ?_; clear hor; rintro e w6 ⟨hR, hb6⟩
          rcases hR with ⟨_, rfl⟩ | ⟨hno, _⟩
          rotate_left
          · rw [Hev.out] at hno; cases hno
          have L6 := Lib.hid (L5.out.later hb6)
          have C6 := Lib.hid (C5.out.later hb6)
          have G6 := Lib.hid (G5.out.later hb6)
          clear hb6 L5 C5 G5
          go_wp2_with fail
          refine (rints_any none 0 0 [] none 0 0 [] _ (Sl.nil _ 1 0 (by decide)) (Sl.nil _ 1 0 (by decide))).mono ?_; rintro e w7 ⟨rfl, hb7⟩
          rw [show decide (([] : List Nat) = []) = true from rfl]
          have L7 := Lib.hid (L6.out.later hb7)
          have C7 := Lib.hid (C6.out.later hb7)
          have G7 := Lib.hid (G6.out.later hb7)
          clear hb7 L6 C6 G6
          go_wp2_with fail
          refine (hhd _ C7.out G7.out).mono ?_; clear hhd; rintro e w8 ⟨rfl, hb8⟩
          have L8 := Lib.hid (L7.out.later hb8)
          have C8 := Lib.hid (C7.out.later hb8)
          have G8 := Lib.hid (G7.out.later hb8)
          clear hb8 L7 C7 G7
          go_wp2_with fail
          refine (goes7_any _).mono ?_; rintro e wz ⟨rfl, hbz⟩
          have LZ := Lib.hid (L8.out.later hbz)
          clear hbz
          go_wp2_with fail
          go_ret
          exact ⟨rfl, LZ.out.bel⟩
  · have hmF := mayB_f hmay
    have hrm := fun u => rmay_any k m hk hm u
    rw [hmF] at hrm
    clear hmay
    go_enter Try.func4, Try.ntmps4
    go_wp2_with fail
    refine (new_any _).mono ?_; rintro e w1 ⟨rfl, hf, hb⟩
    obtain ⟨F, hF⟩ : ∃ F, F = w.heap.size + 1 := ⟨_, rfl⟩
    obtain ⟨T, hT⟩ : ∃ T, T = w.heap.size := ⟨_, rfl⟩
    rw [← hF] at hf ⊢
    rw [← hT] at hf
    have HT := Lib.hid (show w.heap.size ≤ T by omega)
    clear hF hT
    go_wp2_with fail
    refine (cnew_no F T k m hk hm hmF _ hf).mono ?_; rintro e w2 ⟨rfl, hf2, hr⟩
    have L2 := Lib.hid (Lw.of hb HT.out hr hf2)
    clear hf hb hf2 hr
    go_wp2_with fail
    refine (hrm _).mono ?_; clear hrm; rintro e w3 ⟨rfl, hw3⟩
    obtain rfl : w2 = w3 := hw3.symm
    go_wp2_with fail
    refine (goes7_any _).mono ?_; rintro e wz ⟨rfl, hbz⟩
    have LZ := Lib.hid (L2.out.later hbz)
    clear hbz
    go_wp2_with fail
    go_ret
    exact ⟨rfl, LZ.out.bel⟩
end Go.Proofs.Ytjacdabhlnfbkaa
