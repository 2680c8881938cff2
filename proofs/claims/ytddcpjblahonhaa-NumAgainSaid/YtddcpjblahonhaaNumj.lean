/-
  Contracts of package num's Text and Bytes and of the document's answer Text: all answer 'longR'.
-/
import Derived.Test.YtddcpjblahonhaaNumi
import Derived.IntWalk
namespace Go.Proofs.Ytddcpjblahonhaa
open Go.RowKit
set_option linter.unusedVariables false

theorem rets33_eq {s s' : ByteArray} {k2 k3 : IntKind} {b c b' c' : Int} (h1 : s = s') (h2 : b = b') (h3 : c = c') : Ending.returned (.tuple #[.string s, .int k2 b, .int k3 c]) = Ending.returned (.tuple #[.string s', .int k2 b', .int k3 c']) := by rw [h1, h2, h3]

set_option maxHeartbeats 400000 in
theorem text_any (A : Option Addr) (n c : Nat) (l : List UInt8) (at_ most : Int) (w : World) (h : Sl w 1 A n c (cells l)) (hm : most < 2 ^ 63) (hm' : -2 ^ 63 ≤ most) :
    Calls Try.prog 18 #[.slice A n c, .int .i64 at_, .int .i64 most] w fun e w' => e = .returned (.tuple #[.string (bstr (longR l at_ most).1), .int .i64 ((longR l at_ most).2.1 : Nat), .int .i64 ((longR l at_ most).2.2 : Nat)]) ∧ w = w' := by
  have hlong := long_any A n c l at_ most w h hm hm'
  obtain ⟨b0, p0, e0, hv⟩ : ∃ n p e, longR l at_ most = (n, p, e) := ⟨_, _, _, rfl⟩
  rw [hv] at hlong ⊢
  have Hlong := Lib.hid hlong; clear hlong hv
  go_enter Try.func18, Try.ntmps18
  go_wp2_with fail
  refine Hlong.out.mono ?_; rintro e w1 ⟨A1, n1, c1, rfl, h1, rfl⟩
  have k1 := run_string_of (P := Try.prog) (w := w) 22 5 9 Try.underlying22 Try.underlying5 Try.underlying9 h1
  go_wp2_with fail
  go_ret3
  exact ⟨rfl, rfl⟩

/-- What Bytes answers. -/
def RetBytes3 (w : World) (r : List UInt8 × Nat × Nat) (e : Ending) (w' : World) : Prop :=
  ∃ A n c, e = .returned (.tuple #[.slice A n c, .int .i64 (r.2.1 : Int), .int .i64 (r.2.2 : Int)]) ∧ Sl w' 1 A n c (cells r.1) ∧ Below w.heap.size w w' ∧ Mine w' w.heap.size 5 A n (cells r.1)

set_option maxHeartbeats 400000 in
theorem bytes_any (A : Option Addr) (n c : Nat) (l : List UInt8) (at_ most : Int) (w : World) (h : Sl w 1 A n c (cells l)) (h47 : n ≤ 140737488355328) (hm : most < 2 ^ 63) (hm' : -2 ^ 63 ≤ most) :
    Calls Try.prog 19 #[.slice A n c, .int .i64 at_, .int .i64 most] w (RetBytes3 w (longR l at_ most)) := by
  have hlong := long_any A n c l at_ most w h hm hm'
  have hlen : (longR l at_ most).1.length ≤ n := by
    have hl := h.len
    rw [cells_length, Nat.mul_one] at hl
    unfold longR
    split
    · simp
    · split
      · simp
      · split
        · simp
        · simp
          omega
  obtain ⟨b0, p0, e0, hv⟩ : ∃ n p e, longR l at_ most = (n, p, e) := ⟨_, _, _, rfl⟩
  rw [hv] at hlong hlen ⊢
  have Hlong := Lib.hid hlong; clear hlong hv
  have Hlen := Lib.hid hlen; clear hlen
  go_enter Try.func19, Try.ntmps19
  go_wp2_with fail
  refine Hlong.out.mono ?_; rintro e w1 ⟨A1, n1, c1, rfl, h1, rfl⟩
  go_wp2_with fail
  refine (clone_mine A1 n1 c1 b0 _ h1 (by
    have a := h1.len
    have b := Hlen.out
    rw [cells_length, Nat.mul_one] at a
    rw [← a]
    exact Nat.le_trans b h47)).mono ?_
  rintro e w2 ⟨A2, n2, c2, rfl, h2, hb2, hm2⟩
  go_wp2_with fail
  refine (cut_any A2 n2 c2 h2.cap h2.top _).mono ?_; rintro e w' ⟨rfl, rfl⟩
  go_wp2_with fail
  go_ret3
  exact ⟨A2, n2, n2, rfl, h2.recap (Nat.le_refl _) h2.lim, hb2, hm2⟩

theorem w64_nat (m n : Nat) (h : m ≤ n) (hn : n ≤ 2 ^ 63 - 1) : wrap64 (m : Int) = (m : Int) := by
  unfold wrap64
  omega

set_option maxHeartbeats 400000 in
set_option maxRecDepth 20000 in
theorem rtext_any (A : Option Addr) (n c : Nat) (l : List UInt8) (at_ most : Int) (w : World) (h : Sl w 1 A n c (cells l)) (hm : most < 2 ^ 63) (hm' : -2 ^ 63 ≤ most) :
    Calls Try.prog 20 #[.slice A n c, .int .i64 at_, .int .i64 most] w fun e w' => e = .returned (.tuple #[.string (bstr (longR l at_ most).1), .int .i64 ((longR l at_ most).2.1 : Nat), .int .i64 ((longR l at_ most).2.2 : Nat)]) ∧ w = w' := by
  obtain ⟨n0, p0, e0, hv⟩ : ∃ n p e, varR l at_ = (n, p, e) := ⟨_, _, _, rfl⟩
  have hn := h.lim
  unfold maxLen at hn
  have hcap := h.cap
  have hlen0 := h.len
  rw [cells_length, Nat.mul_one] at hlen0
  have Hl := Lib.hid hlen0; clear hlen0
  have hok := varR_ok (l := l) (at_ := at_)
  rw [hv] at hok
  have Hok := Lib.hid hok; clear hok
  have Hv := Lib.hid hv; clear hv
  by_cases he : e0 = 0
  · subst he
    obtain ⟨a, ha, h1, h2, h3, -⟩ := Hok.out rfl
    have h1 : a < p0 := h1
    have h2 : p0 ≤ n := by have := Hl.out; rw [← this]; exact h2
    have h3 : n0 < 2 ^ 64 := h3
    clear ha
    by_cases hmost : 0 < most
    · obtain ⟨M, rfl⟩ := Int.eq_ofNat_of_zero_le (Int.le_of_lt hmost)
      by_cases h6 : M < n0
      · have Hr : Hid (longR l at_ M = ([], 0, 6)) := Lib.hid (by
          unfold longR
          rw [Hv.out, if_neg (by simp), if_pos (by show max (M : Int) 0 < (n0 : Int); omega)])
        have h6' : (n0 : Int) > M := by omega
        have h7' : ¬ ((M : Int) < 0) := by omega
        clear h6 h2
        go_enter Try.func20, Try.ntmps20
        go_wp2_with fail
        refine (rvar_eq A n c l at_ _ h Hv.out).mono ?_; rintro e w' ⟨rfl, rfl⟩
        go_wp2_with fail
        go_ret3
        rw [Hr.out]
        exact ⟨rfl, rfl⟩
      by_cases h5 : (n0 : Int) > (n : Int) - p0
      · have Hr : Hid (longR l at_ M = ([], 0, 5)) := Lib.hid (by
          unfold longR
          rw [Hv.out, if_neg (by simp), if_neg (by show ¬ max (M : Int) 0 < (n0 : Int); omega), if_pos (by rw [Hl.out]; show n - p0 < n0; omega)])
        go_enter Try.func20, Try.ntmps20
        go_wp2_with fail
        refine (rvar_eq A n c l at_ _ h Hv.out).mono ?_; rintro e w' ⟨rfl, rfl⟩
        go_wp2_with fail
        go_ret3
        rw [Hr.out]
        exact ⟨rfl, rfl⟩
      have Hr : Hid (longR l at_ M = ((l.drop p0).take n0, p0 + n0, 0)) := Lib.hid (by
        unfold longR
        rw [Hv.out, if_neg (by simp), if_neg (by show ¬ max (M : Int) 0 < (n0 : Int); omega), if_neg (by rw [Hl.out]; show ¬ n - p0 < n0; omega)])
      have hn0 : n0 ≤ 2 ^ 63 - 1 := by omega
      have hp0 : p0 + n0 ≤ n := by omega
      have Hp0 := Lib.hid hp0; clear hp0
      have hd : decide ((n : Int) - p0 < n0) = false := by simp; omega
      have Hn0 := Lib.hid hn0; clear hn0
      clear h5
      obtain ⟨E, hE⟩ : ∃ E, E = p0 + n0 := ⟨_, rfl⟩
      have Hw : Hid (wrap64 ((p0 : Int) + n0) = (E : Int)) := Lib.hid (by have := Hp0.out; simp only [wrap64]; omega)
      have Hnw : Hid (wrap64 (n0 : Int) = (n0 : Int)) := Lib.hid (w64_nat n0 n (by have := Hp0.out; omega) hn)
      have hE1 : (E : Int) ≤ c := by have := Hp0.out; omega
      have hE2 : (p0 : Int) ≤ E := by omega
      have hs := h.sub1 p0 (p0 + n0) (c - p0) (by omega) Hp0.out (by have := Hp0.out; omega) (by have := h.top; omega)
      rw [Nat.add_sub_cancel_left] at hs
      have HE := Lib.hid hE; clear hE
      by_cases hcp : c = p0
      · have h0 : n0 = 0 := by have := Hp0.out; omega
        have hEp : E = p0 := by rw [HE.out]; omega
        subst hEp
        subst hcp
        have H0 := Lib.hid h0; clear h0
        have k1 := run_string_of (P := Try.prog) (w := w) (l := []) 22 5 9 Try.underlying22 Try.underlying5 Try.underlying9 (Sl.empty w 1 A 0 (by decide))
        have K1 := Lib.hid k1; clear k1
        go_enter Try.func20, Try.ntmps20
        go_wp2_with fail
        refine (rvar_eq A n _ l at_ _ h Hv.out).mono ?_; rintro e w' ⟨rfl, rfl⟩
        go_upto_region 8 with (fail)
        have k1 := K1.out
        have hnw := Hnw.out
        have hw := Hw.out
        clear hd h3 hcap hn h6 hm hm' hmost h1 h2
        go_wp2_with fail
        go_ret3
        rw [Hr.out]
        refine ⟨rets33_eq ?_ ?_ rfl, rfl⟩
        · rw [H0.out]
          rfl
        · show wrap64 _ = _
          first | rw [hw] | rw [hnw, hw]
          exact congrArg Nat.cast HE.out
      · have k1 := run_string_of (P := Try.prog) (w := w) 22 5 9 Try.underlying22 Try.underlying5 Try.underlying9 hs
        rw [show n0 = E - p0 from by rw [HE.out]; omega] at k1
        have K1 := Lib.hid k1; clear k1
        go_enter Try.func20, Try.ntmps20
        go_wp2_with fail
        refine (rvar_eq A n c l at_ _ h Hv.out).mono ?_; rintro e w' ⟨rfl, rfl⟩
        go_upto_region 8 with (fail)
        have k1 := K1.out
        have hnw := Hnw.out
        have hw := Hw.out
        clear hd h3 hcap hn h6 hm hm' hmost h1 h2
        go_wp2_with fail
        go_ret3
        rw [Hr.out]
        refine ⟨rets33_eq ?_ ?_ rfl, rfl⟩
        · show bstr _ = _
          rw [HE.out, Nat.add_sub_cancel_left]
        · show wrap64 _ = _
          first | rw [hw, HE.out] | rw [hnw, hw, HE.out]
    · by_cases h6 : 0 < n0
      · have Hr : Hid (longR l at_ most = ([], 0, 6)) := Lib.hid (by
          unfold longR
          rw [Hv.out, if_neg (by simp), if_pos (by show max most 0 < (n0 : Int); omega)])
        go_enter Try.func20, Try.ntmps20
        go_wp2_with fail
        refine (rvar_eq A n c l at_ _ h Hv.out).mono ?_; rintro e w' ⟨rfl, rfl⟩
        go_wp2_with fail
        go_ret3
        rw [Hr.out]
        exact ⟨rfl, rfl⟩
      · obtain rfl : n0 = 0 := by omega
        have Hr : Hid (longR l at_ most = ([], p0, 0)) := Lib.hid (by
          unfold longR
          rw [Hv.out, if_neg (by simp), if_neg (by show ¬ max most 0 < ((0 : Nat) : Int); omega), if_neg (by simp)]
          simp)
        have k0 := fun (A0 : Option Addr) (cc : Nat) (h' : cc ≤ maxLen) => run_string_of (P := Try.prog) (w := w) (l := []) (c := cc) 22 5 9 Try.underlying22 Try.underlying5 Try.underlying9 (Sl.empty w 1 A0 cc h')
        by_cases hcp : c = p0
        · subst hcp
          have k1 := k0 A 0 (by decide)
          clear k0
          go_enter Try.func20, Try.ntmps20
          go_wp2_with fail
          refine (rvar_eq A n _ l at_ _ h Hv.out).mono ?_; rintro e w' ⟨rfl, rfl⟩
          go_wp2_with fail
          go_ret3
          rw [Hr.out]
          exact ⟨rets33_eq rfl (by simp) rfl, rfl⟩
        · have k1 := k0 (A.map (·.add p0)) (c - p0) (by have := h.top; omega)
          clear k0
          go_enter Try.func20, Try.ntmps20
          go_wp2_with fail
          refine (rvar_eq A n c l at_ _ h Hv.out).mono ?_; rintro e w' ⟨rfl, rfl⟩
          go_wp2_with fail
          go_ret3
          rw [Hr.out]
          exact ⟨rets33_eq rfl (by simp) rfl, rfl⟩
  · have Hr : Hid (longR l at_ most = ([], 0, e0)) := Lib.hid (by
      unfold longR
      rw [Hv.out, if_pos he])
    have he' : ((e0 : Int) != 0) = true := by simp; omega
    go_enter Try.func20, Try.ntmps20
    go_wp2_with fail
    refine (rvar_eq A n c l at_ _ h Hv.out).mono ?_; rintro e w' ⟨rfl, rfl⟩
    go_wp2_with fail
    go_ret3
    rw [Hr.out]
    exact ⟨rfl, rfl⟩
end Go.Proofs.Ytddcpjblahonhaa
