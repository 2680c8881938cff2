/-
  Contracts of package num's long, Text, Bytes and of the document's answer Text: all answer 'longR'.
-/
import Derived.Test.YtddcpjblahonhaaNumh
import Derived.Deep.DeepCutAuto
namespace Go.Proofs.Ytddcpjblahonhaa
open Go.RowKit
set_option linter.unusedVariables false

theorem var_eq (A : Option Addr) (n c : Nat) (l : List UInt8) (at_ : Int) (w : World) (h : Sl w 1 A n c (cells l)) {n0 p0 e0 : Nat} (hv : varR l at_ = (n0, p0, e0)) :
    Calls Try.prog 14 #[.slice A n c, .int .i64 at_] w fun e w' => e = .returned (.tuple #[.int .u64 (n0 : Int), .int .i64 (p0 : Int), .int .i64 (e0 : Int)]) ∧ w = w' := by
  have := var_any A n c l at_ w h
  rw [hv] at this
  exact this
theorem rvar_eq (A : Option Addr) (n c : Nat) (l : List UInt8) (at_ : Int) (w : World) (h : Sl w 1 A n c (cells l)) {n0 p0 e0 : Nat} (hv : varR l at_ = (n0, p0, e0)) :
    Calls Try.prog 15 #[.slice A n c, .int .i64 at_] w fun e w' => e = .returned (.tuple #[.int .u64 (n0 : Int), .int .i64 (p0 : Int), .int .i64 (e0 : Int)]) ∧ w = w' := by
  have := rvar_any A n c l at_ w h
  rw [hv] at this
  exact this

theorem ret3s_eq {v v' : Value} {k2 k3 : IntKind} {b c b' c' : Int} (h1 : v = v') (h2 : b = b') (h3 : c = c') : Ending.returned (.tuple #[v, .int k2 b, .int k3 c]) = Ending.returned (.tuple #[v', .int k2 b', .int k3 c']) := by rw [h1, h2, h3]

/-- What long answers. -/
def RetLong (w : World) (r : List UInt8 × Nat × Nat) (e : Ending) (w' : World) : Prop :=
  ∃ A n c, e = .returned (.tuple #[.slice A n c, .int .i64 (r.2.1 : Int), .int .i64 (r.2.2 : Int)]) ∧ Sl w 1 A n c (cells r.1) ∧ w = w'

set_option maxHeartbeats 400000 in
set_option maxRecDepth 20000 in
theorem long_any (A : Option Addr) (n c : Nat) (l : List UInt8) (at_ most : Int) (w : World) (h : Sl w 1 A n c (cells l)) (hm : most < 2 ^ 63) (hm' : -2 ^ 63 ≤ most) :
    Calls Try.prog 32 #[.slice A n c, .int .i64 at_, .int .i64 most] w (RetLong w (longR l at_ most)) := by
  obtain ⟨n0, p0, e0, hv⟩ : ∃ n p e, varR l at_ = (n, p, e) := ⟨_, _, _, rfl⟩
  have hn := h.lim
  unfold maxLen at hn
  have hcap := h.cap
  have hlen0 := h.len
  rw [cells_length, Nat.mul_one] at hlen0
  have Hl := Lib.hid hlen0; clear hlen0
  have hok := varR_ok (l := l) (at_ := at_)
  rw [hv] at hok
  have Hok := Lib.hid hok; clear hok
  have Hv := Lib.hid hv; clear hv
  by_cases he : e0 = 0
  · subst he
    obtain ⟨a, ha, h1, h2, h3, -⟩ := Hok.out rfl
    have h1 : a < p0 := h1
    have h2 : p0 ≤ n := by have := Hl.out; rw [← this]; exact h2
    have h3 : n0 < 2 ^ 64 := h3
    clear ha
    by_cases hmost : 0 ≤ most
    · obtain ⟨M, rfl⟩ := Int.eq_ofNat_of_zero_le hmost
      by_cases h6 : M < n0
      · have Hr : Hid (longR l at_ M = ([], 0, 6)) := Lib.hid (by
          unfold longR
          rw [Hv.out, if_neg (by simp), if_pos (by show max (M : Int) 0 < (n0 : Int); omega)])
        go_enter Try.func32, Try.ntmps32
        go_wp2_with fail
        refine (var_eq A n c l at_ _ h Hv.out).mono ?_; rintro e w' ⟨rfl, rfl⟩
        go_wp2_with fail
        go_ret3
        rw [Hr.out]
        exact ⟨none, 0, 0, rfl, Sl.nil _ _ _ (by decide), rfl⟩
      by_cases h5 : (n0 : Int) > (n : Int) - p0
      · have Hr : Hid (longR l at_ M = ([], 0, 5)) := Lib.hid (by
          unfold longR
          rw [Hv.out, if_neg (by simp), if_neg (by show ¬ max (M : Int) 0 < (n0 : Int); omega), if_pos (by rw [Hl.out]; show n - p0 < n0; omega)])
        go_enter Try.func32, Try.ntmps32
        go_wp2_with fail
        refine (var_eq A n c l at_ _ h Hv.out).mono ?_; rintro e w' ⟨rfl, rfl⟩
        go_wp2_with fail
        go_ret3
        rw [Hr.out]
        exact ⟨none, 0, 0, rfl, Sl.nil _ _ _ (by decide), rfl⟩
      have Hr : Hid (longR l at_ M = ((l.drop p0).take n0, p0 + n0, 0)) := Lib.hid (by
        unfold longR
        rw [Hv.out, if_neg (by simp), if_neg (by show ¬ max (M : Int) 0 < (n0 : Int); omega), if_neg (by rw [Hl.out]; show ¬ n - p0 < n0; omega)])
      have hn0 : n0 ≤ 2 ^ 63 - 1 := by omega
      have hp0 : p0 + n0 ≤ n := by omega
      have Hp0 := Lib.hid hp0; clear hp0
      have hd : decide ((n : Int) - p0 < n0) = false := by simp; omega
      have Hn0 := Lib.hid hn0; clear hn0
      clear h5
      obtain ⟨E, hE⟩ : ∃ E, E = p0 + n0 := ⟨_, rfl⟩
      have hw : wrap64 ((p0 : Int) + n0) = (E : Int) := by have := Hp0.out; simp only [wrap64]; omega
      have hE1 : (E : Int) ≤ c := by have := Hp0.out; omega
      have hE2 : (p0 : Int) ≤ E := by omega
      by_cases h0 : n0 = 0
      · have hE3 : E = p0 := by omega
        subst hE3
        have H0 := Lib.hid h0; clear h0 hE
        go_enter Try.func32, Try.ntmps32
        go_wp2_with fail
        refine (var_eq A n c l at_ _ h Hv.out).mono ?_; rintro e w' ⟨rfl, rfl⟩
        go_upto_region 9 with (fail)
        clear hd h3 hcap hn h6 hm hm' hmost h1 h2
        go_wp2_with fail
        go_ret3
        rw [Hr.out]
        refine ⟨A, 0, 0, ret3s_eq rfl ?_ rfl, ?_, rfl⟩
        · show wrap64 _ = _
          rw [hw, H0.out]
          rfl
        · rw [H0.out]
          exact Sl.empty _ _ A 0 (by decide)
      · have hE3 : ¬ E = p0 := by omega
        have HE := Lib.hid hE; clear hE
        have hs := h.sub1 p0 (p0 + n0) n0 (by omega) Hp0.out (by omega) (by have := Hp0.out; unfold maxLen; omega)
        rw [Nat.add_sub_cancel_left] at hs
        go_enter Try.func32, Try.ntmps32
        go_wp2_with fail
        refine (var_eq A n c l at_ _ h Hv.out).mono ?_; rintro e w' ⟨rfl, rfl⟩
        go_upto_region 9 with (fail)
        clear hd h3 hcap hn h6 hm hm' hmost h1 h2 h0
        go_wp2_with fail
        go_ret3
        rw [Hr.out]
        refine ⟨_, n0, n0, ret3s_eq ?_ ?_ rfl, hs, rfl⟩
        · show Value.slice _ (E - p0) (E - p0) = _
          rw [HE.out, Nat.add_sub_cancel_left]
        · show wrap64 _ = _
          rw [hw, HE.out]
    · by_cases h6 : 0 < n0
      · have Hr : Hid (longR l at_ most = ([], 0, 6)) := Lib.hid (by
          unfold longR
          rw [Hv.out, if_neg (by simp), if_pos (by show max most 0 < (n0 : Int); omega)])
        go_enter Try.func32, Try.ntmps32
        go_wp2_with fail
        refine (var_eq A n c l at_ _ h Hv.out).mono ?_; rintro e w' ⟨rfl, rfl⟩
        go_wp2_with fail
        go_ret3
        rw [Hr.out]
        exact ⟨none, 0, 0, rfl, Sl.nil _ _ _ (by decide), rfl⟩
      · obtain rfl : n0 = 0 := by omega
        have Hr : Hid (longR l at_ most = ([], p0, 0)) := Lib.hid (by
          unfold longR
          rw [Hv.out, if_neg (by simp), if_neg (by show ¬ max most 0 < ((0 : Nat) : Int); omega), if_neg (by simp)]
          simp)
        go_enter Try.func32, Try.ntmps32
        go_wp2_with fail
        refine (var_eq A n c l at_ _ h Hv.out).mono ?_; rintro e w' ⟨rfl, rfl⟩
        go_wp2_with fail
        go_ret3
        rw [Hr.out]
        exact ⟨A, 0, 0, ret3s_eq rfl (by simp) rfl, by simpa [cells] using Sl.empty _ _ A 0 (by decide), rfl⟩
  · have Hr : Hid (longR l at_ most = ([], 0, e0)) := Lib.hid (by
      unfold longR
      rw [Hv.out, if_pos he])
    have he' : ((e0 : Int) != 0) = true := by simp; omega
    go_enter Try.func32, Try.ntmps32
    go_wp2_with fail
    refine (var_eq A n c l at_ _ h Hv.out).mono ?_; rintro e w' ⟨rfl, rfl⟩
    go_wp2_with fail
    go_ret3
    rw [Hr.out]
    exact ⟨none, 0, 0, rfl, Sl.nil _ _ _ (by decide), rfl⟩
end Go.Proofs.Ytddcpjblahonhaa
