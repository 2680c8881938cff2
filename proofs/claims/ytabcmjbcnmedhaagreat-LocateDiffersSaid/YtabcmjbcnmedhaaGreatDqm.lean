/-
  LocateDiffers returns true, whatever its arguments. No condition.
-/
import Derived.Test.YtabcmjbcnmedhaaGreatDql
namespace Go.Proofs.YtabcmjbcnmedhaaGreat
open Go.RowKit Go.Proofs
set_option linter.unusedVariables false

set_option maxRecDepth 100000 in
set_option maxHeartbeats 3200000 in
theorem locateDiffers_walk (A : Option Addr) (c : Nat) (rs : List (List UInt8)) (A2 : Option Addr) (c2 : Nat) (bs : List (List UInt8)) (w : World) (hg : Gr w A rs.length c rs) (hg2 : Gr w A2 bs.length c2 bs) :
    Calls Tryz.prog 3 #[.slice A rs.length c, .slice A2 bs.length c2] w (SaysTrue w) := by
  obtain ⟨n, hn⟩ : ∃ n, n = rs.length := ⟨_, rfl⟩
  obtain ⟨n2, hn2⟩ : ∃ n, n = bs.length := ⟨_, rfl⟩
  rw [← hn] at hg ⊢
  rw [← hn2] at hg2 ⊢
  have HG := Lib.hid hg
  have HG2 := Lib.hid hg2
  have Hn := Lib.hid hn
  have Hn2 := Lib.hid hn2
  clear hg hg2 hn hn2
  go_enter Tryz.func3, Tryz.ntmps3
  go_wp2_with fail
  refine (few5_any 0 A n c rs w HG.out).mono ?_; rintro e w1 ⟨hw1, x, rfl, hx⟩
  obtain rfl : w = w1 := hw1.symm
  cases x
  · clear hx
    go_wp2_with fail
    refine (finds8_any _).mono ?_; rintro e wz ⟨rfl, hbz⟩
    go_wp2_with fail
    go_ret
    exact ⟨rfl, hbz⟩
  · have hs1 := (hx rfl).1
    clear hx
    go_wp2_with fail
    refine (few5_any 0 A2 n2 c2 bs w HG2.out).mono ?_; rintro e w1 ⟨hw1, x, rfl, hx⟩
    obtain rfl : w = w1 := hw1.symm
    cases x
    · clear hx
      go_wp2_with fail
      refine (finds8_any _).mono ?_; rintro e wz ⟨rfl, hbz⟩
      go_wp2_with fail
      go_ret
      exact ⟨rfl, hbz⟩
    · have hs2 := (hx rfl).1
      clear hx
      go_wp2_with fail
      refine (differ_any A n c rs A2 n2 c2 bs w HG.out HG2.out (by omega) (by omega)).mono ?_; rintro e w2 ⟨A3, q3, c3, rfl, hs3, hb2⟩
      have G2 := Lib.hid (HG.out.later hb2)
      have GG2 := Lib.hid (HG2.out.later hb2)
      have S3 := Lib.hid hs3
      have X2 := Lib.hid hb2
      clear hs3 hb2
      go_wp2_with fail
      refine (rdiffer_any A n c rs A2 n2 c2 bs w2 G2.out GG2.out (by omega) (by omega)).mono ?_; rintro e w3 ⟨A4, q4, c4, rfl, hs4, hb3⟩
      have G3 := Lib.hid (G2.out.later hb3)
      have S33 := Lib.hid (S3.out.below hb3 (Nat.le_refl _))
      have S4 := Lib.hid hs4
      have X3 := Lib.hid (X2.out.trans (hb3.mono X2.out.size))
      clear hs4 hb3
      go_wp2_with fail
      refine (rints_any A3 q3 c3 _ A4 q4 c4 _ w3 S33.out S4.out).mono ?_; rintro e w4 ⟨he, hb4⟩
      rw [decide_eq_true rfl] at he
      subst he
      have G4 := Lib.hid (G3.out.later hb4)
      have X4 := Lib.hid (X3.out.trans (hb4.mono X3.out.size))
      clear hb4
      go_wp2_with fail
      refine (differ_any A n c rs A n c rs w4 G4.out G4.out (by omega) (by omega)).mono ?_; rintro e w5 ⟨A5, q5, c5, rfl, hs5, hb5⟩
      rw [Nat.max_self, difL_self] at hs5
      have hq5 := hs5.len
      have hq5 : q5 = 0 := by rw [ncells_length] at hq5; simpa using hq5.symm
      subst hq5
      have X5 := Lib.hid (X4.out.trans (hb5.mono X4.out.size))
      clear hs5 hb5
      go_wp2_with fail
      refine (finds8_any _).mono ?_; rintro e wz ⟨rfl, hbz⟩
      have XZ := Lib.hid (X5.out.trans (hbz.mono X5.out.size))
      clear hbz
      go_wp2_with fail
      go_ret
      exact ⟨rfl, XZ.out⟩
end Go.Proofs.YtabcmjbcnmedhaaGreat
