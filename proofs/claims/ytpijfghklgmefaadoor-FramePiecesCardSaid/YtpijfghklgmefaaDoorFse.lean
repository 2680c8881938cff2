/-
  The statement's function FramePieces returns true, whatever its arguments. Condition: crc's table.
-/
import Derived.Test.YtpijfghklgmefaaDoorFrz
import Derived.Test.YtpijfghklgmefaaDoorFsb
namespace Go.Proofs.YtpijfghklgmefaaDoor
open Go.RowKit Go.Proofs
set_option linter.unusedVariables false
set_option maxRecDepth 20000
set_option maxHeartbeats 3200000

/-- How many bytes the first so many pieces have, of each no more than 4000. -/
def sumM (rs : List (List UInt8)) (i : Nat) : Nat := ((rs.take i).map fun r => min r.length 4000).sum
theorem sumM_zero (rs : List (List UInt8)) : sumM rs 0 = 0 := by simp [sumM]
theorem sumM_next {rs : List (List UInt8)} {i : Nat} {r : List UInt8} (h : rs[i]? = some r) : sumM rs (i + 1) = sumM rs i + min r.length 4000 := by
  rw [sumM, List.take_add_one, h, List.map_append, List.sum_append]
  simp [sumM]
theorem sum_flat : ∀ (rs : List (List UInt8)), (rs.map fun r => min r.length 4000).sum ≤ 3000 → rs.flatten.length = (rs.map fun r => min r.length 4000).sum
  | [], _ => rfl
  | r :: rs, h => by
    rw [List.map_cons, List.sum_cons] at h
    rw [List.map_cons, List.sum_cons, List.flatten_cons, List.length_append, sum_flat rs (by omega)]
    omega
theorem sumM_flat {rs : List (List UInt8)} (h : sumM rs rs.length ≤ 3000) : rs.flatten.length ≤ 3000 := by
  rw [sumM, List.take_length] at h
  rw [sum_flat rs h]
  exact h
theorem framePieces_walk (A : Option Addr) (cp : Nat) (l : List UInt8) (room : Int) (P : Option Addr) (pc : Nat) (rs : List (List UInt8)) (w : World) (hs : Sl w 1 A l.length cp (cells l)) (r1 : -9223372036854775808 ≤ room ∧ room < 9223372036854775808) (hg : Gr w P rs.length pc rs) (hN : Nt w) :
    Calls Tryd.prog 4 #[.slice A l.length cp, .int .i64 room, .slice P rs.length pc] w (SaysTrue w) := by
  obtain ⟨n, hn⟩ : ∃ n, n = l.length := ⟨_, rfl⟩
  obtain ⟨k, hk⟩ : ∃ k, k = rs.length := ⟨_, rfl⟩
  rw [← hn] at hs ⊢
  rw [← hk] at hg ⊢
  have HL := Lib.hid hn
  have HKK := Lib.hid hk
  clear hn hk
  obtain ⟨r1, r2⟩ := r1
  have hlim := hs.lim
  have hlim2 := hg.lim
  unfold maxLen at hlim hlim2
  have HN := Lib.hid hN
  have HS := Lib.hid hs
  have HG := Lib.hid hg
  clear hN hs hg
  go_enter Tryd.func4, Tryd.ntmps4
  go_wp2_with fail
  go_loopw [7, 8] (fun lv iv wr => ∃ (i : Nat) (x : Int), lv = .int .i64 x ∧ iv = .int .i64 (i : Int) ∧ i ≤ k ∧ i ≤ 100 ∧ x = 3000 - (sumM rs i : Int) ∧ sumM rs i ≤ 4000 * i ∧ Below w.heap.size w wr) (fun _ iv _ => k - (intOf iv).toNat)
  case atStart => exact ⟨0, 3000, rfl, rfl, by omega, by omega, by rw [sumM_zero]; rfl, by rw [sumM_zero]; omega, Below.refl _ _⟩
  case round =>
    obtain ⟨i, x, rfl, rfl, hi, hi2, hx, hm, hbe⟩ := hrel
    have BE := Lib.hid hbe
    have N1 := Lib.hid (HN.out.keep hbe)
    have hf := frames17 wr (HN.out.keep hbe)
    clear hbe
    have HX := Lib.hid hx
    have x1 : -1000000 ≤ x := by omega
    have x2 : x ≤ 3000 := by omega
    clear hx
    by_cases hlt : i < k
    · by_cases h100 : i < 100
      · obtain ⟨b, o, hP, hcc⟩ := (HG.out.later BE.out).at_ (by omega)
        have hget := HG.out.get hlt
        obtain ⟨p, hp⟩ : ∃ r, r = rs.getD i [] := ⟨_, rfl⟩
        rw [← hp] at hget
        obtain ⟨A1, c1, hc1, hs1⟩ := hcc i p hget
        have hnx := sumM_next hget
        have HNX := Lib.hid hnx
        subst hP
        clear hf hcc hget hp hnx hs1
        by_cases h4 : ¬ 4000 < p.length
        · have hpz : ¬ (4000 : Int) < ((p.length : Nat) : Int) := by omega
          go_wp2_with fail
          go_roundw
          case rel =>
            have h1 := HNX.out
            have h2 := HX.out
            exact ⟨i + 1, x - (p.length : Int), rfl, by go_num, by omega, by omega, by omega, by omega, BE.out⟩
          case measure => simp [intOf]; omega
        · have hpz : (4000 : Int) < ((p.length : Nat) : Int) := by omega
          go_wp2_with fail
          go_roundw
          case rel =>
            have h1 := HNX.out
            have h2 := HX.out
            exact ⟨i + 1, x - 4000, rfl, by go_num, by omega, by omega, by omega, by omega, BE.out⟩
          case measure => simp [intOf]; omega
      · have h60 : (60 : Int) < (k : Int) := by omega
        by_cases c1 : (1500 : Int) < (n : Int)
        all_goals
          go_wp2_with fail
          refine hf.mono ?_; rintro e w1 ⟨rfl, hb1⟩
          go_wp2_with fail
          go_ret
          exact ⟨rfl, BE.out.trans (hb1.mono BE.out.size)⟩
    · by_cases c1 : (1500 : Int) < (n : Int)
      · go_wp2_with fail
        refine hf.mono ?_; rintro e w1 ⟨rfl, hb1⟩
        go_wp2_with fail
        go_ret
        exact ⟨rfl, BE.out.trans (hb1.mono BE.out.size)⟩
      by_cases c2 : (60 : Int) < (k : Int)
      · go_wp2_with fail
        refine hf.mono ?_; rintro e w1 ⟨rfl, hb1⟩
        go_wp2_with fail
        go_ret
        exact ⟨rfl, BE.out.trans (hb1.mono BE.out.size)⟩
      by_cases c3 : x < 0
      · go_wp2_with fail
        refine hf.mono ?_; rintro e w1 ⟨rfl, hb1⟩
        go_wp2_with fail
        go_ret
        exact ⟨rfl, BE.out.trans (hb1.mono BE.out.size)⟩
      have hik : i = rs.length := by have := HKK.out; omega
      have hfl : rs.flatten.length ≤ 3000 := sumM_flat (by rw [← hik]; have := HX.out; omega)
      have HFL := Lib.hid hfl
      have hS1 := HS.out.below BE.out (Nat.le_refl _)
      have hG1 := HG.out.later BE.out
      have S1 := Lib.hid hS1
      have G1 := Lib.hid hG1
      clear hf hik hfl hS1 hG1 HX hm
      by_cases hr : 8 ≤ room ∧ room ≤ 65535
      · obtain ⟨long, hlong⟩ : ∃ long : Nat, room = (long : Int) + 7 := ⟨(room - 7).toNat, by omega⟩
        have hcut := cut17_any A n cp l room long hlong (by omega) (by omega) wr S1.out (by omega) N1.out
        have hrc := fun W (h : Sl W 1 A n cp (cells l)) => rcut17_any A n cp l room long hlong (by omega) (by omega) W h (by omega)
        have RC := Lib.hid hrc
        clear hrc hlong hr
        go_wp2_with fail
        refine hcut.mono ?_; clear hcut; rintro e w2 ⟨g2, k2, rfl, hgm2, hb2⟩
        have B2 := Lib.hid (BE.out.trans (hb2.mono BE.out.size))
        have hG2 := hgm2.gr
        have G2 := Lib.hid hG2
        have S2 := S1.out.below hb2 (Nat.le_refl _)
        clear hgm2 hb2 hG2
        go_wp2_with fail
        refine (RC.out w2 S2).mono ?_; clear S2; rintro e w3 ⟨k3, B3', d3, rfl, hg3, hb3⟩
        have B3 := Lib.hid (B2.out.trans (hb3.mono B2.out.size))
        have G2' := Lib.hid (G2.out.later hb3)
        have G3 := Lib.hid hg3
        clear hg3 hb3
        go_wp2_with fail
        refine (rsame17_any _ _ _ _ _ _ _ _ w3 G2'.out G3.out).mono ?_; rintro e w4 ⟨rfl, hb4⟩
        have B4 := Lib.hid (B3.out.trans (hb4.mono B3.out.size))
        have hdc : decide (cutF long l = cutF long l) = true := decide_eq_true rfl
        rw [hdc]
        clear hb4 hdc
        have G4 := Lib.hid (HG.out.later B4.out)
        have hj4 := join17_any P k pc rs w4 G4.out (by have := HFL.out; omega) (by omega) (HN.out.keep B4.out)
        unfold RetJoin at hj4
        go_wp2_with fail
        refine hj4.mono ?_; clear hj4; rintro e w5 ⟨J5, jc5, rfl, hs5, hb5, _⟩
        have B5 := Lib.hid (B4.out.trans (hb5.mono B4.out.size))
        have G5 := HG.out.later B5.out
        have S5 := Lib.hid hs5
        clear hs5 hb5
        go_wp2_with fail
        refine (rjoin17_any P k pc rs w5 G5 (by have := HFL.out; omega) (by omega)).mono ?_; clear G5; rintro e w6 ⟨J6, jc6, rfl, hs6, hb6, _⟩
        have B6 := Lib.hid (B5.out.trans (hb6.mono B5.out.size))
        have G6 := HG.out.later B6.out
        have S56 := Lib.hid (S5.out.below hb6 (Nat.le_refl _))
        have S6 := Lib.hid hs6
        clear hs6 hb6
        go_wp2_with fail
        refine (all17_any P k pc rs w6 G6 (by have := HFL.out; omega) (by omega) (HN.out.keep B6.out)).mono ?_; clear G6; rintro e w7 ⟨V7, vc7, rfl, hg7, hb7⟩
        have B7 := Lib.hid (B6.out.trans (hb7.mono B6.out.size))
        have G7 := HG.out.later B7.out
        have S57 := Lib.hid (S56.out.below hb7 (Nat.le_refl _))
        have S67 := Lib.hid (S6.out.below hb7 (Nat.le_refl _))
        have V77 := Lib.hid hg7
        clear hg7 hb7
        go_wp2_with fail
        refine (rall17_any P k pc rs w7 G7 (by have := HFL.out; omega) (by omega)).mono ?_; clear G7; rintro e w8 ⟨V8, vc8, rfl, hg8, hb8⟩
        have B8 := Lib.hid (B7.out.trans (hb8.mono B7.out.size))
        have k1 := str_of (S57.out.below hb8 (Nat.le_refl _))
        have k2 := str_of (S67.out.below hb8 (Nat.le_refl _))
        have V78 := Lib.hid (V77.out.later hb8)
        have V88 := Lib.hid hg8
        clear hg8 hb8
        go_wp2_with fail
        refine (rsame17_any _ _ _ _ _ _ _ _ w8 V78.out V88.out).mono ?_; rintro e w9 ⟨rfl, hb9⟩
        have B9 := Lib.hid (B8.out.trans (hb9.mono B8.out.size))
        have hdc : decide ((allF rs).1 = (allF rs).1) = true := decide_eq_true rfl
        rw [hdc]
        clear hb9 hdc k1 k2
        go_wp2_with fail
        refine (frames17 w9 (HN.out.keep B9.out)).mono ?_; rintro e w10 ⟨rfl, hb10⟩
        go_wp2_with fail
        go_ret
        exact ⟨rfl, B9.out.trans (hb10.mono B9.out.size)⟩
      · have hcut := cut17_no A n cp room hr wr
        have hrc := fun W => rcut17_no A n cp room (by omega) W
        have RC := Lib.hid hrc
        clear hrc hr
        go_wp2_with fail
        refine hcut.mono ?_; clear hcut; rintro e w2 ⟨rfl, hw2⟩
        obtain rfl : wr = w2 := hw2
        go_wp2_with fail
        refine (RC.out wr).mono ?_; rintro e w3 ⟨rfl, hw3⟩
        obtain rfl : wr = w3 := hw3.symm
        go_wp2_with fail
        refine (rsame17_any _ _ _ [] _ _ _ [] wr (Gr.nil _ _ (by decide)) (Gr.nil _ _ (by decide))).mono ?_; rintro e w4 ⟨rfl, hb4⟩
        have B4 := Lib.hid (BE.out.trans (hb4.mono BE.out.size))
        have hdc : decide (([] : List (List UInt8)) = []) = true := decide_eq_true rfl
        rw [hdc]
        clear hb4 hdc
        have G4 := Lib.hid (HG.out.later B4.out)
        have hj4 := join17_any P k pc rs w4 G4.out (by have := HFL.out; omega) (by omega) (HN.out.keep B4.out)
        unfold RetJoin at hj4
        go_wp2_with fail
        refine hj4.mono ?_; clear hj4; rintro e w5 ⟨J5, jc5, rfl, hs5, hb5, _⟩
        have B5 := Lib.hid (B4.out.trans (hb5.mono B4.out.size))
        have G5 := HG.out.later B5.out
        have S5 := Lib.hid hs5
        clear hs5 hb5
        go_wp2_with fail
        refine (rjoin17_any P k pc rs w5 G5 (by have := HFL.out; omega) (by omega)).mono ?_; clear G5; rintro e w6 ⟨J6, jc6, rfl, hs6, hb6, _⟩
        have B6 := Lib.hid (B5.out.trans (hb6.mono B5.out.size))
        have G6 := HG.out.later B6.out
        have S56 := Lib.hid (S5.out.below hb6 (Nat.le_refl _))
        have S6 := Lib.hid hs6
        clear hs6 hb6
        go_wp2_with fail
        refine (all17_any P k pc rs w6 G6 (by have := HFL.out; omega) (by omega) (HN.out.keep B6.out)).mono ?_; clear G6; rintro e w7 ⟨V7, vc7, rfl, hg7, hb7⟩
        have B7 := Lib.hid (B6.out.trans (hb7.mono B6.out.size))
        have G7 := HG.out.later B7.out
        have S57 := Lib.hid (S56.out.below hb7 (Nat.le_refl _))
        have S67 := Lib.hid (S6.out.below hb7 (Nat.le_refl _))
        have V77 := Lib.hid hg7
        clear hg7 hb7
        go_wp2_with fail
        refine (rall17_any P k pc rs w7 G7 (by have := HFL.out; omega) (by omega)).mono ?_; clear G7; rintro e w8 ⟨V8, vc8, rfl, hg8, hb8⟩
        have B8 := Lib.hid (B7.out.trans (hb8.mono B7.out.size))
        have k1 := str_of (S57.out.below hb8 (Nat.le_refl _))
        have k2 := str_of (S67.out.below hb8 (Nat.le_refl _))
        have V78 := Lib.hid (V77.out.later hb8)
        have V88 := Lib.hid hg8
        clear hg8 hb8
        go_wp2_with fail
        refine (rsame17_any _ _ _ _ _ _ _ _ w8 V78.out V88.out).mono ?_; rintro e w9 ⟨rfl, hb9⟩
        have B9 := Lib.hid (B8.out.trans (hb9.mono B8.out.size))
        have hdc : decide ((allF rs).1 = (allF rs).1) = true := decide_eq_true rfl
        rw [hdc]
        clear hb9 hdc k1 k2
        go_wp2_with fail
        refine (frames17 w9 (HN.out.keep B9.out)).mono ?_; rintro e w10 ⟨rfl, hb10⟩
        go_wp2_with fail
        go_ret
        exact ⟨rfl, B9.out.trans (hb10.mono B9.out.size)⟩
end Go.Proofs.YtpijfghklgmefaaDoor
