/-
  The statement's function NumVars returns true, whatever the bytes, the place and the number. No condition.
-/
import Derived.Test.YtddcpjblahonhaaLaw
namespace Go.Proofs.Ytddcpjblahonhaa
open Go.RowKit
set_option linter.unusedVariables false

set_option maxHeartbeats 400000 in
set_option maxRecDepth 20000 in
theorem numVars_walk (A : Option Addr) (n c : Nat) (l : List UInt8) (at_ : Int) (x : Nat) (w : World) (h : Sl w 1 A n c (cells l)) (hx : x < 2 ^ 64) :
    Calls Try.prog 4 #[.slice A n c, .int .i64 at_, .int .u64 (x : Int)] w (RetTrue w) := by
  have hn := h.lim
  unfold maxLen at hn
  by_cases hbig : n > 2000
  · have hb' : (n : Int) > 2000 := by omega
    go_enter Try.func4, Try.ntmps4
    go_wp2_with fail
    refine (read_any _).mono ?_; rintro e w1 ⟨rfl, hb1⟩
    go_wp2_with fail
    go_ret
    exact ⟨rfl, hb1⟩
  · have hb' : ¬ (n : Int) > 2000 := by omega
    obtain ⟨v, p, e0, hg⟩ : ∃ v p e, varR l at_ = (v, p, e) := ⟨_, _, _, rfl⟩
    have H := Lib.hid h; clear h
    have Hg := Lib.hid hg; clear hg
    go_enter Try.func4, Try.ntmps4
    go_wp2_with fail
    refine (var_eq A n c l at_ _ H.out Hg.out).mono ?_; rintro e w' ⟨rfl, rfl⟩
    go_wp2_with fail
    refine (rvar_eq A n c l at_ _ H.out Hg.out).mono ?_; rintro e w' ⟨rfl, rfl⟩
    go_wp2_with fail
    refine (putVar_any A n c l x _ H.out (by omega) hx).mono ?_; rintro e w1 ⟨A1, n1, c1, rfl, h1, hb1⟩
    have H1 := Lib.hid h1; clear h1
    go_wp2_with fail
    refine (rputVar_any A n c l x _ (H.out.below hb1 (Nat.le_refl _)) (by omega) hx).mono ?_; rintro e w2 ⟨A2, n2, c2, rfl, h2, hb2⟩
    have H2 := Lib.hid h2; clear h2
    go_wp2_with fail
    refine (same_true A1 A2 n1 c1 n2 c2 _ _ (H1.out.below hb2 (Nat.le_refl _)) H2.out).mono ?_; rintro e w' ⟨rfl, rfl⟩
    go_wp2_with fail
    refine (read_any _).mono ?_; rintro e w3 ⟨rfl, hb3⟩
    go_wp2_with fail
    go_ret
    exact ⟨rfl, hb1.trans ((hb2.mono hb1.size).trans (hb3.mono (Nat.le_trans hb1.size hb2.size)))⟩
end Go.Proofs.Ytddcpjblahonhaa
