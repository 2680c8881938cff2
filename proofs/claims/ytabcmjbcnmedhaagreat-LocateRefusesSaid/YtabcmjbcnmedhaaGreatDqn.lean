/-
  LocateRefuses returns true, whatever its arguments. No condition.
-/
import Derived.Test.YtabcmjbcnmedhaaGreatDql
namespace Go.Proofs.YtabcmjbcnmedhaaGreat
open Go.RowKit Go.Proofs
set_option linter.unusedVariables false

/-- A coder that refuses what is looked for. -/
theorem find_bad (C k m F T : Nat) (A : Option Addr) (n c : Nat) (rs : List (List UInt8)) (most : Int) (hm1 : -9223372036854775808 ≤ most) (hm2 : most < 9223372036854775808) (w : World) (h : Cod w C k m F T) (hg : Gr w A n c rs) (hW : ∀ r ∈ rs, r.length ≤ 1048576) (hb : bearsB k m most = false) :
    Calls Tryz.prog 16 #[.pointer (some ⟨C, 0, none⟩), .slice A n c, .int .i64 most] w fun e w' => e = .returned (.tuple #[.slice none 0 0, .slice none 0 0, .int .i64 2]) ∧ Below w.heap.size w w' := by
  refine (find_any C k m F T A n c rs most hm1 hm2 w h hg hW).mono ?_
  rintro e w' ⟨⟨_, he⟩ | ⟨hok, _⟩, hb'⟩
  · exact ⟨he, hb'⟩
  · rw [okF, hb] at hok
    cases hok

set_option maxRecDepth 100000 in
set_option maxHeartbeats 3200000 in
theorem locateRefuses_walk (A : Option Addr) (c : Nat) (rs : List (List UInt8)) (most : Int) (w : World) (hg : Gr w A rs.length c rs) (hm : -9223372036854775808 ≤ most ∧ most < 9223372036854775808) :
    Calls Tryz.prog 6 #[.slice A rs.length c, .int .i64 most] w (SaysTrue w) := by
  obtain ⟨n, hn⟩ : ∃ n, n = rs.length := ⟨_, rfl⟩
  rw [← hn] at hg ⊢
  have HG := Lib.hid hg
  have Hn := Lib.hid hn
  clear hg hn
  go_enter Tryz.func6, Tryz.ntmps6
  go_wp2_with fail
  refine (few5_any 0 A n c rs w HG.out).mono ?_; rintro e w1 ⟨hw1, x, rfl, hx⟩
  obtain rfl : w = w1 := hw1.symm
  cases x
  · clear hx
    go_wp2_with fail
    refine (finds8_any _).mono ?_; rintro e wz ⟨rfl, hbz⟩
    go_wp2_with fail
    go_ret
    exact ⟨rfl, hbz⟩
  · have hW : ∀ r ∈ rs, r.length ≤ 1048576 := fun r hr => by have := (hx rfl).2 r hr; omega
    have HW := Lib.hid hW
    clear hx hW
    go_wp2_with fail
    refine (new_any _).mono ?_; rintro e w1 ⟨rfl, hf, hb⟩
    obtain ⟨F, hF⟩ : ∃ F, F = w.heap.size + 1 := ⟨_, rfl⟩
    obtain ⟨T, hT⟩ : ∃ T, T = w.heap.size := ⟨_, rfl⟩
    rw [← hF] at hf ⊢
    rw [← hT] at hf
    have HT := Lib.hid (show w.heap.size ≤ T by omega)
    have HF := Lib.hid hf
    have Hb := Lib.hid hb
    clear hF hT hf hb
    go_wp2_with fail
    refine (find_nil _ _ _).mono ?_; rintro e w2 ⟨rfl, hw2⟩
    obtain rfl : w1 = w2 := hw2.symm
    go_wp2_with fail
    refine (cnew_at F T 2 3 2 3 rfl rfl (by omega) _ HF.out).mono ?_; rintro e w2 ⟨C, rfl, hC, hr⟩
    have L2 := Lib.hid (Lw.of Hb.out HT.out hr hC.fld)
    have HC := Lib.hid hC
    clear hC hr
    go_wp2_with fail
    refine (find_bad C 2 3 F T A n c rs 2 (by omega) (by omega) w2 HC.out (HG.out.later L2.out.bel) HW.out (by decide)).mono ?_; rintro e w3 ⟨rfl, hb3⟩
    have L3 := Lib.hid (L2.out.later hb3)
    clear hb3 HC
    go_wp2_with fail
    refine (cnew_at F T 10 7 10 7 rfl rfl (by omega) _ L3.out.fld.fld).mono ?_; rintro e w4 ⟨C, rfl, hC, hr⟩
    have L4 := Lib.hid (L3.out.later (Fr.madeAll L3.out.fld hC.fld hr))
    have HC := Lib.hid hC
    clear hC hr
    go_wp2_with fail
    refine (find_bad C 10 7 F T A n c rs 1 (by omega) (by omega) w4 HC.out (HG.out.later L4.out.bel) HW.out (by decide)).mono ?_; rintro e w5 ⟨rfl, hb5⟩
    have L5 := Lib.hid (L4.out.later hb5)
    clear hb5 HC
    go_wp2_with fail
    refine (cnew_at F T 2 9 2 9 rfl rfl (by omega) _ L5.out.fld.fld).mono ?_; rintro e w6 ⟨C, rfl, hC, hr⟩
    have L6 := Lib.hid (L5.out.later (Fr.madeAll L5.out.fld hC.fld hr))
    have HC := Lib.hid hC
    clear hC hr
    go_wp2_with fail
    refine (find_bad C 2 9 F T A n c rs 3 (by omega) (by omega) w6 HC.out (HG.out.later L6.out.bel) HW.out (by decide)).mono ?_; rintro e w7 ⟨rfl, hb7⟩
    have L7 := Lib.hid (L6.out.later hb7)
    clear hb7 HC
    go_wp2_with fail
    refine (close_nil _ _ _).mono ?_; rintro e w8 ⟨rfl, hw8⟩
    obtain rfl : w7 = w8 := hw8.symm
    go_wp2_with fail
    refine (finds8_any _).mono ?_; rintro e wz ⟨rfl, hbz⟩
    have LZ := Lib.hid (L7.out.later hbz)
    clear hbz
    go_wp2_with fail
    go_ret
    exact ⟨rfl, LZ.out.bel⟩
end Go.Proofs.YtabcmjbcnmedhaaGreat
