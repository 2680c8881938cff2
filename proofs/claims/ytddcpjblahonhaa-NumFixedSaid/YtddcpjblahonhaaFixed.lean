/-
  The statement's function NumFixed returns true, whatever the bytes, the place, the width and the number. No condition.
-/
import Derived.Test.YtddcpjblahonhaaLaw
namespace Go.Proofs.Ytddcpjblahonhaa
open Go.RowKit
set_option linter.unusedVariables false

set_option maxHeartbeats 400000 in
set_option maxRecDepth 20000 in
theorem numFixed_walk (A : Option Addr) (n c : Nat) (l : List UInt8) (at_ m : Int) (x : Nat) (w : World) (h : Sl w 1 A n c (cells l)) (hx : x < 2 ^ 64) :
    Calls Try.prog 3 #[.slice A n c, .int .i64 at_, .int .i64 m, .int .u64 (x : Int)] w (RetTrue w) := by
  have hn := h.lim
  unfold maxLen at hn
  by_cases hbig : n > 2000
  · have hb' : (n : Int) > 2000 := by omega
    go_enter Try.func3, Try.ntmps3
    go_wp2_with fail
    refine (read_any _).mono ?_; rintro e w1 ⟨rfl, hb1⟩
    go_wp2_with fail
    go_ret
    exact ⟨rfl, hb1⟩
  · have hb' : ¬ (n : Int) > 2000 := by omega
    obtain ⟨v, e0, hg⟩ : ∃ v e, getR l at_ m = (v, e) := ⟨_, _, rfl⟩
    have H := Lib.hid h; clear h
    have Hg := Lib.hid hg; clear hg
    go_enter Try.func3, Try.ntmps3
    go_wp2_with fail
    refine (put_any A n c l m x _ H.out (by omega) hx).mono ?_; rintro e w1 ⟨A1, n1, c1, rfl, h1, hb1⟩
    have H1 := Lib.hid h1; clear h1
    go_wp2_with fail
    have hget := get_any A n c l at_ m w1 (H.out.below hb1 (Nat.le_refl _))
    have hrget := rget_any A n c l at_ m w1 (H.out.below hb1 (Nat.le_refl _))
    rw [Hg.out] at hget hrget
    refine hget.mono ?_; clear hget; rintro e w' ⟨rfl, rfl⟩
    go_wp2_with fail
    refine hrget.mono ?_; clear hrget; rintro e w' ⟨rfl, rfl⟩
    go_wp2_with fail
    refine (rput_wid A n c l m x _ (H.out.below hb1 (Nat.le_refl _)) (by omega) hx).mono ?_; rintro e w2 ⟨A2, n2, c2, rfl, h2, hb2⟩
    have H2 := Lib.hid h2; clear h2
    go_wp2_with fail
    refine (same_true A1 A2 n1 c1 n2 c2 _ _ (H1.out.below hb2 (Nat.le_refl _)) H2.out).mono ?_; rintro e w' ⟨rfl, rfl⟩
    go_wp2_with fail
    refine (read_any _).mono ?_; rintro e w3 ⟨rfl, hb3⟩
    go_wp2_with fail
    go_ret
    exact ⟨rfl, hb1.trans ((hb2.mono hb1.size).trans (hb3.mono (Nat.le_trans hb1.size hb2.size)))⟩
end Go.Proofs.Ytddcpjblahonhaa
