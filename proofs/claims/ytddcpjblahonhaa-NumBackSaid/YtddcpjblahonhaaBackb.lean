/-
  The statement's function NumBack returns true, whatever the items. No condition.
-/
import Derived.Test.YtddcpjblahonhaaBacka
import Derived.Deep.DeepCutAuto
namespace Go.Proofs.Ytddcpjblahonhaa
open Go.RowKit
set_option linter.unusedVariables false

set_option maxHeartbeats 1000000 in
set_option maxRecDepth 100000 in
theorem numBack_walk (A : Option Addr) (n c : Nat) (its : List It) (w : World) (h : Items w A n c its) :
    Calls Try.prog 6 #[.slice A n c] w (RetTrue w) := by
  have hn : n ≤ maxLen := Nat.le_trans h.cap h.top
  unfold maxLen at hn
  have hfew := few_any A n c its w h
  by_cases hf : (decide (n ≤ 100) && decide (0 ≤ left its (min n 100))) = true
  · rw [hf] at hfew
    rw [Bool.and_eq_true, decide_eq_true_eq, decide_eq_true_eq] at hf
    obtain ⟨hn100, hleft⟩ := hf
    rw [show min n 100 = n from by omega] at hleft
    have H := Lib.hid h; clear h
    have Hleft := Lib.hid hleft; clear hleft
    have Hfew := Lib.hid hfew; clear hfew
    go_enter Try.func6, Try.ntmps6
    go_wp2_with fail
    refine Hfew.out.mono ?_; rintro e w' ⟨rfl, rfl⟩
    go_wp2_with fail
    go_loopw [3, 4] (fun v q wr => ∃ (i : Nat) (A' : Option Addr) (n' c' : Nat), i ≤ n ∧ q = .int .i64 (i : Int) ∧ v = .slice A' n' c' ∧ Sl wr 1 A' n' c' (cells (encs (its.take i))) ∧ Below w.heap.size w wr) (fun _ q _ => n - (intOf q).toNat)
    case atStart => exact ⟨0, none, 0, 0, by omega, rfl, rfl, Sl.nil _ _ _ (by decide), Below.refl _ _⟩
    case round =>
      obtain ⟨i, A', n', c', hi, rfl, rfl, hs, hb⟩ := hrel
      have Hs := Lib.hid hs; clear hs
      by_cases hlt : i < n
      · obtain ⟨x, hx⟩ : ∃ x, its[i]? = some x := ⟨_, List.getElem?_eq_getElem (by rw [H.out.len]; exact hlt)⟩
        obtain ⟨b, o, rfl, hc1, hc2, hc3⟩ := (H.out.below hb).cell i x hx
        have hbd := H.out.bd i x hx
        obtain ⟨hx1, hx2, hx3, hx4⟩ := hbd
        have hxs := txt_small its i n x hx hlt Hleft.out
        have hel := encs_small its i (by rw [H.out.len]; omega) (by
          have := left_mono its i (n - i)
          rw [show i + (n - i) = n from by omega] at this
          exact Int.le_trans Hleft.out this)
        have hll := left_le its i
        have hl0 : 0 ≤ left its i := by
          have := left_mono its i (n - i)
          rw [show i + (n - i) = n from by omega] at this
          exact Int.le_trans Hleft.out this
        have hns : n' ≤ 3000 := by
          have := Hs.out.len
          rw [cells_length, Nat.mul_one] at this
          omega
        have hsn := encs_snoc its i x hx
        have Hsn := Lib.hid hsn; clear hsn
        have Hx := Lib.hid hx; clear hx
        have Hx3 := Lib.hid hx3
        have Hxs := Lib.hid hxs
        clear hel hll hl0 hx1 hx2 hx3 hx4 hxs
        have Hb := Lib.hid (hb.alloc hb.size (.cells #[.int .i64 x.wd, .int .u64 (x.num : Int), .string x.txt] 51))
        have Hs2 := Lib.hid (Hs.out.alloc (.cells #[.int .i64 x.wd, .int .u64 (x.num : Int), .string x.txt] 51))
        by_cases hw : 1 ≤ x.wd ∧ x.wd ≤ 8
        · have He : Hid (x.enc = le (wid x.wd) x.num) := Lib.hid (by rw [It.enc, if_pos hw, wid, if_pos hw.2])
          obtain ⟨hw1, hw8⟩ := hw
          go_wp2_with fail
          refine (put_any A' n' c' _ x.wd x.num _ Hs2.out (by omega) Hx3.out).mono ?_; rintro e w1 ⟨A1, n1, c1, rfl, h1, hb1⟩
          have H1 := Lib.hid h1; clear h1
          have Hb1 := Lib.hid (Hb.out.trans (hb1.mono Hb.out.size)); clear hb1
          go_wp2_with fail
          go_roundw
          case rel => exact ⟨i + 1, A1, n1, c1, by omega, by go_num, rfl, by rw [Hsn.out, He.out]; exact H1.out, Hb1.out⟩
          case measure => simp [intOf]; omega
        by_cases hw0 : x.wd = 0
        · have He : Hid (x.enc = venc 9 x.num) := Lib.hid (by rw [It.enc, if_neg hw, if_pos hw0])
          have hq1 : ¬ 1 ≤ x.wd := by omega
          have hq2 : (x.wd == 0) = true := by simp [hw0]
          clear hw hw0
          go_wp2_with fail
          refine (putVar_any A' n' c' _ x.num _ Hs2.out (by omega) Hx3.out).mono ?_; rintro e w1 ⟨A1, n1, c1, rfl, h1, hb1⟩
          have H1 := Lib.hid h1; clear h1
          have Hb1 := Lib.hid (Hb.out.trans (hb1.mono Hb.out.size)); clear hb1
          go_wp2_with fail
          go_roundw
          case rel => exact ⟨i + 1, A1, n1, c1, by omega, by go_num, rfl, by rw [Hsn.out, He.out]; exact H1.out, Hb1.out⟩
          case measure => simp [intOf]; omega
        have He : Hid (x.enc = venc 9 x.txt.size ++ x.txt.data.toList) := Lib.hid (by rw [It.enc, if_neg hw, if_neg hw0])
        have hq2 : (x.wd == 0) = false := by simp [hw0]
        by_cases hq1 : 1 ≤ x.wd
        · have hq3 : ¬ x.wd ≤ 8 := fun h8 => hw ⟨hq1, h8⟩
          clear hw hw0
          go_wp2_with fail
          refine (putText_any A' n' c' _ x.txt _ Hs2.out (by have := Hxs.out; omega)).mono ?_; rintro e w1 ⟨A1, n1, c1, rfl, h1, hb1⟩
          have H1 := Lib.hid h1; clear h1
          have Hb1 := Lib.hid (Hb.out.trans (hb1.mono Hb.out.size)); clear hb1
          go_wp2_with fail
          go_roundw
          case rel => exact ⟨i + 1, A1, n1, c1, by omega, by go_num, rfl, by rw [Hsn.out, He.out, ← List.append_assoc]; exact H1.out, Hb1.out⟩
          case measure => simp [intOf]; omega
        · clear hw hw0
          go_wp2_with fail
          refine (putText_any A' n' c' _ x.txt _ Hs2.out (by have := Hxs.out; omega)).mono ?_; rintro e w1 ⟨A1, n1, c1, rfl, h1, hb1⟩
          have H1 := Lib.hid h1; clear h1
          have Hb1 := Lib.hid (Hb.out.trans (hb1.mono Hb.out.size)); clear hb1
          go_wp2_with fail
          go_roundw
          case rel => exact ⟨i + 1, A1, n1, c1, by omega, by go_num, rfl, by rw [Hsn.out, He.out, ← List.append_assoc]; exact H1.out, Hb1.out⟩
          case measure => simp [intOf]; omega
      · have hall : its.take i = its := List.take_of_length_le (by rw [H.out.len]; omega)
        have Hs2 := Hs.out
        rw [hall] at Hs2
        have HS := Lib.hid Hs2; clear Hs2 Hs hall
        have hen : (encs its).length = n' := by
          have := HS.out.len
          rw [cells_length, Nat.mul_one] at this
          exact this
        have hn3 : n' ≤ 3000 := by
          have h1 := encs_small its n (by rw [H.out.len]; exact Nat.le_refl _) Hleft.out
          have h2 := left_le its n
          have h3 := Hleft.out
          rw [List.take_of_length_le (by rw [H.out.len]; exact Nat.le_refl _)] at h1
          omega
        have Hen := Lib.hid hen; clear hen
        obtain ⟨wo, rfl⟩ : ∃ wo : World, wo = wr := ⟨_, rfl⟩
        have Hbo := Lib.hid hb; clear hb
        go_wp2_with fail
        clear hlt hi
        go_loopw [6, 7] (fun v q wr => ∃ (i p : Nat), i ≤ n ∧ q = .int .i64 (i : Int) ∧ v = .int .i64 (p : Int) ∧ p = (encs (its.take i)).length ∧ Below wo.heap.size wo wr) (fun _ q _ => n - (intOf q).toNat)
        case atStart => exact ⟨0, 0, by omega, rfl, rfl, by simp [encs], Below.refl _ _⟩
        case round =>
          obtain ⟨i, p, hi, rfl, rfl, hp, hb⟩ := hrel
          have Hp := Lib.hid hp; clear hp
          by_cases hlt : i < n
          · obtain ⟨x, hx⟩ : ∃ x, its[i]? = some x := ⟨_, List.getElem?_eq_getElem (by rw [H.out.len]; exact hlt)⟩
            obtain ⟨b, o, rfl, hc1, hc2, hc3⟩ := ((H.out.below Hbo.out).below hb).cell i x hx
            obtain ⟨hx1, hx2, hx3, hx4⟩ := H.out.bd i x hx
            have hxs := txt_small its i n x hx hlt Hleft.out
            obtain ⟨r, hr⟩ := encs_split its i x hx
            have Hsn := Lib.hid (encs_snoc its i x hx)
            have Hr := Lib.hid hr; clear hr
            have hpn : p + x.enc.length ≤ n' := by
              have h1 := Hen.out
              have h2 := Hp.out
              rw [Hr.out, List.length_append, List.length_append] at h1
              omega
            have Hpn := Lib.hid hpn
            have Hx := Lib.hid hx; clear hx
            have Hx3 := Lib.hid hx3
            have Hxs := Lib.hid hxs
            clear hx1 hx2 hx3 hx4 hxs
            have Hb := Lib.hid (hb.alloc hb.size (.cells #[.int .i64 x.wd, .int .u64 (x.num : Int), .string x.txt] 51))
            have Hs2 := Lib.hid ((HS.out.below hb (Nat.le_refl _)).alloc (.cells #[.int .i64 x.wd, .int .u64 (x.num : Int), .string x.txt] 51))
            by_cases hw : 1 ≤ x.wd ∧ x.wd ≤ 8
            · have He : Hid (x.enc = le x.wd.toNat x.num) := Lib.hid (by rw [It.enc, if_pos hw])
              have HL : Hid (getR (encs its) (p : Int) x.wd = (x.num % 256 ^ x.wd.toNat, 0)) := Lib.hid (by
                obtain ⟨k, hk⟩ := Int.eq_ofNat_of_zero_le (show 0 ≤ x.wd by omega)
                rw [Hr.out, He.out, hk, Int.toNat_natCast, Hp.out]
                exact getR_le _ r k x.num (by omega) (by omega))
              have Hl2 : Hid ((x.enc.length : Int) = x.wd) := Lib.hid (by rw [He.out, le_length]; omega)
              have hpw : (p : Int) + x.wd ≤ 3000 := by
                have h1 := Hl2.out
                omega
              obtain ⟨hw1, hw8⟩ := hw
              clear hpn
              go_wp2_with fail
              have hget := get_any A' n' c' _ (p : Int) x.wd _ Hs2.out
              rw [HL.out] at hget
              refine hget.mono ?_; clear hget; rintro e w' ⟨rfl, rfl⟩
              go_wp2_with fail
              refine (low_any x.num x.wd _ Hx3.out hw1 hw8).mono ?_; rintro e w' ⟨rfl, rfl⟩
              go_wp2_with fail
              go_roundw
              case rel => exact ⟨i + 1, p + x.enc.length, by omega, by go_num, congrArg (Value.int .i64) (by have := Hl2.out; omega), by rw [Hsn.out, List.length_append, Hp.out], Hb.out⟩
              case measure => simp [intOf]; omega
            by_cases hw0 : x.wd = 0
            · have He : Hid (x.enc = venc 9 x.num) := Lib.hid (by rw [It.enc, if_neg hw, if_pos hw0])
              have HL : Hid (varR (encs its) (p : Int) = (x.num, p + x.enc.length, 0)) := Lib.hid (by
                rw [Hr.out, He.out, Hp.out]
                exact varR_venc _ r x.num Hx3.out)
              have hq1 : ¬ 1 ≤ x.wd := by omega
              have hq2 : (x.wd == 0) = true := by simp [hw0]
              clear hw hw0 hpn
              go_wp2_with fail
              refine (var_eq A' n' c' _ (p : Int) _ Hs2.out HL.out).mono ?_; rintro e w' ⟨rfl, rfl⟩
              go_wp2_with fail
              go_roundw
              case rel => exact ⟨i + 1, p + x.enc.length, by omega, by go_num, rfl, by rw [Hsn.out, List.length_append, Hp.out], Hb.out⟩
              case measure => simp [intOf]; omega
            have He : Hid (x.enc = venc 9 x.txt.size ++ x.txt.data.toList) := Lib.hid (by rw [It.enc, if_neg hw, if_neg hw0])
            have hsz : x.txt.data.toList.length = x.txt.size := by rw [Array.length_toList]; rfl
            have HL : Hid (longR (encs its) (p : Int) (x.txt.size : Nat) = (x.txt.data.toList, p + x.enc.length, 0)) := Lib.hid (by
              rw [Hr.out, He.out, Hp.out, ← hsz]
              exact longR_put _ r _ (by have := Hxs.out; omega))
            have hstr : bstr x.txt.data.toList = x.txt := by simp [bstr]
            have Hstr := Lib.hid hstr; clear hstr hsz
            have hq2 : (x.wd == 0) = false := by simp [hw0]
            have hxl : x.txt.size ≤ 2000 := Hxs.out
            by_cases hq1 : 1 ≤ x.wd
            · have hq3 : ¬ x.wd ≤ 8 := fun h8 => hw ⟨hq1, h8⟩
              clear hw hw0 hpn
              go_wp2_with fail
              have ht := text_any A' n' c' _ (p : Int) (x.txt.size : Nat) _ Hs2.out (by omega) (by omega)
              rw [HL.out] at ht
              simp only [Hstr.out] at ht
              refine ht.mono ?_; clear ht; rintro e w' ⟨rfl, rfl⟩
              go_wp2_with fail
              go_roundw
              case rel => exact ⟨i + 1, p + x.enc.length, by omega, by go_num, rfl, by rw [Hsn.out, List.length_append, Hp.out], Hb.out⟩
              case measure => simp [intOf]; omega
            · clear hw hw0 hpn
              go_wp2_with fail
              have ht := text_any A' n' c' _ (p : Int) (x.txt.size : Nat) _ Hs2.out (by omega) (by omega)
              rw [HL.out] at ht
              simp only [Hstr.out] at ht
              refine ht.mono ?_; clear ht; rintro e w' ⟨rfl, rfl⟩
              go_wp2_with fail
              go_roundw
              case rel => exact ⟨i + 1, p + x.enc.length, by omega, by go_num, rfl, by rw [Hsn.out, List.length_append, Hp.out], Hb.out⟩
              case measure => simp [intOf]; omega
          · have hpe : ((p : Int) == n') = true := by
              have h1 := Hp.out
              have h2 := Hen.out
              rw [List.take_of_length_le (by rw [H.out.len]; omega)] at h1
              simp
              omega
            have Hb := Lib.hid (Hbo.out.trans (hb.mono Hbo.out.size))
            go_wp2_with fail
            refine (read_any _).mono ?_; rintro e w3 ⟨rfl, hb3⟩
            go_wp2_with fail
            go_ret
            exact ⟨rfl, Hb.out.trans (hb3.mono Hb.out.size)⟩
  · have hf' : (decide (n ≤ 100) && decide (0 ≤ left its (min n 100))) = false := by simpa using hf
    rw [hf'] at hfew
    have Hfew := Lib.hid hfew; clear hfew hf hf'
    go_enter Try.func6, Try.ntmps6
    go_wp2_with fail
    refine Hfew.out.mono ?_; rintro e w' ⟨rfl, rfl⟩
    go_wp2_with fail
    refine (read_any _).mono ?_; rintro e w1 ⟨rfl, hb1⟩
    go_wp2_with fail
    go_ret
    exact ⟨rfl, hb1⟩
end Go.Proofs.Ytddcpjblahonhaa
