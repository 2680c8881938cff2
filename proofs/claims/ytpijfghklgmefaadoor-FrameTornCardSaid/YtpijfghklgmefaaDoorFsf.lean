/-
  The statement's function FrameTorn returns true, whatever its arguments. Condition: crc's table.
-/
import Derived.Test.YtpijfghklgmefaaDoorFsd
namespace Go.Proofs.YtpijfghklgmefaaDoor
open Go.RowKit Go.Proofs
set_option linter.unusedVariables false
set_option maxRecDepth 20000
set_option maxHeartbeats 3200000

/-- A place in front of which so many pieces stand at most. -/
def AtT (a : Nat) (w : World) (v : Value) (wx : World) : Prop := ∃ i : Nat, i ≤ a ∧ v = .int .i64 (i : Int) ∧ wx = w
theorem take_all17 (L : List (List UInt8)) {n : Nat} (h : n = L.length) : L.take n = L := by rw [h, List.take_length]
theorem frameTorn_walk (A : Option Addr) (cp : Nat) (L : List (List UInt8)) (room cut : Int) (w : World) (hg : Gr w A L.length cp L) (r1 : -9223372036854775808 ≤ room ∧ room < 9223372036854775808) (b1 : -9223372036854775808 ≤ cut ∧ cut < 9223372036854775808) (hN : Nt w) :
    Calls Tryd.prog 5 #[.slice A L.length cp, .int .i64 room, .int .i64 cut] w (SaysTrue w) := by
  obtain ⟨n, hn⟩ : ∃ n, n = L.length := ⟨_, rfl⟩
  rw [← hn] at hg ⊢
  have HL := Lib.hid hn
  clear hn
  obtain ⟨r1, r2⟩ := r1
  obtain ⟨b1, b2⟩ := b1
  have hlim2 := hg.lim
  unfold maxLen at hlim2
  have HN := Lib.hid hN
  have HG := Lib.hid hg
  have hf := frames17 w hN
  clear hN hg
  by_cases c1 : (8 : Int) < (n : Int)
  · go_enter Tryd.func5, Tryd.ntmps5
    go_wp2_with fail
    refine hf.mono ?_; rintro e w1 ⟨rfl, hb1⟩
    go_wp2_with fail
    go_ret
    exact ⟨rfl, hb1⟩
  by_cases c2 : room < 8
  · go_enter Tryd.func5, Tryd.ntmps5
    go_wp2_with fail
    refine hf.mono ?_; rintro e w1 ⟨rfl, hb1⟩
    go_wp2_with fail
    go_ret
    exact ⟨rfl, hb1⟩
  by_cases c3 : 100 < room
  · go_enter Tryd.func5, Tryd.ntmps5
    go_wp2_with fail
    refine hf.mono ?_; rintro e w1 ⟨rfl, hb1⟩
    go_wp2_with fail
    go_ret
    exact ⟨rfl, hb1⟩
  clear hf
  obtain ⟨long, hlong⟩ : ∃ long : Nat, room = (long : Int) + 7 := ⟨(room - 7).toNat, by omega⟩
  have HR := Lib.hid hlong
  have g1 : 1 ≤ long := by omega
  have g2 : long ≤ 93 := by omega
  have hn8 : n ≤ 8 := by omega
  clear hlong
  go_enter Tryd.func5, Tryd.ntmps5
  go_wp2_with fail
  go_loopw [7, 8, 9] (fun av ev iv wr => ∃ (i a ca ce : Nat) (AL EN : Option Addr), av = .slice AL a ca ∧ ev = .slice EN i ce ∧ iv = .int .i64 (i : Int) ∧ i ≤ n ∧ Tn wr w.heap.size AL a ca ((L.take i).flatMap (cutF long)) EN i ce (endsT long L i) ∧ Below w.heap.size w wr ∧ (∀ r ∈ L.take i, r.length ≤ 200)) (fun _ _ iv _ => n - (intOf iv).toNat)
  case atStart => exact ⟨0, 0, 0, 0, none, none, rfl, rfl, rfl, by omega, by rw [List.take_zero]; exact Tn.nil _ _, Below.refl _ _, fun r hr => by simp at hr⟩
  case round =>
    obtain ⟨i, a, ca, ce, AL, EN, rfl, rfl, rfl, hi, htn, hbe, hsm⟩ := hrel
    have TN := Lib.hid htn
    have BE := Lib.hid hbe
    have SM := Lib.hid hsm
    have N1 := Lib.hid (HN.out.keep hbe)
    have hal := htn.gr.len
    have ham := many_small (long := long) (L.take i) hsm
    rw [hal, List.length_take] at ham
    have ha2 : a ≤ 1608 := by omega
    have HAL := Lib.hid (show a = lenT long L i from hal.symm)
    clear htn hbe hsm hal ham
    by_cases hlt : i < n
    · obtain ⟨b, o, hP, hcc⟩ := (HG.out.later BE.out).at_ (by omega)
      have hget := HG.out.get hlt
      obtain ⟨r, hr⟩ : ∃ r, r = L.getD i [] := ⟨_, rfl⟩
      rw [← hr] at hget
      obtain ⟨A1, c1', hc1, hs1⟩ := hcc i r hget
      obtain ⟨m, hm⟩ : ∃ m, m = r.length := ⟨_, rfl⟩
      rw [← hm] at hc1 hs1
      have HGET := Lib.hid hget
      have HM := Lib.hid hm
      subst hP
      clear hcc hget hr hm
      by_cases c4 : (200 : Int) < (m : Int)
      · have hf := frames17 wr N1.out
        go_wp2_with fail
        refine hf.mono ?_; rintro e w1 ⟨rfl, hb1⟩
        go_wp2_with fail
        go_ret
        exact ⟨rfl, BE.out.trans (hb1.mono BE.out.size)⟩
      have hcut := cut17_any A1 m c1' r room long HR.out g1 (by omega) wr hs1 (by omega) N1.out
      clear hs1
      go_wp2_with fail
      refine hcut.mono ?_; clear hcut; rintro e w1 ⟨g, k, rfl, hgm, hb1⟩
      have hlen := hgm.gr.len
      have hk0 : 0 < k := by rw [← hlen, cutF_len]; exact manyF_pos _ _
      have hkm : k ≤ m + 1 := by rw [← hlen, cutF_len, HM.out]; exact manyF_small _ _
      have hkz : ((k : Int) == 0) = false := by rw [beq_eq_false_iff_ne]; omega
      have GM := Lib.hid hgm
      have HK := Lib.hid hlen
      have B1 := Lib.hid (BE.out.trans (hb1.mono BE.out.size))
      have TN1 := Lib.hid (TN.out.later hb1)
      have HAD := Lib.hid TN.out.blk
      have HED := Lib.hid (fun b o e => (TN.out.eb b o e).2)
      clear hgm hlen hb1 hc1
      go_wp2_with fail
      go_loopw [12] (fun jv wx => ∃ j : Nat, jv = .int .i64 (j : Int) ∧ j ≤ k ∧ wx = w1) (fun jv _ => k - (intOf jv).toNat)
      case atStart => exact ⟨0, rfl, by omega, rfl⟩
      case round =>
        obtain ⟨j, rfl, hj, hw⟩ := hrel
        subst hw
        by_cases hjk : j < k
        · have hjj : (j : Int) < (k : Int) := by omega
          obtain ⟨p, hp⟩ : ∃ p, (cutF long r)[j]? = some p := ⟨_, List.getElem?_eq_getElem (by rw [HK.out]; exact hjk)⟩
          obtain ⟨b', o', hbo, hrow⟩ := GM.out.gr.at_ hk0
          injection hbo with hbo
          injection hbo with hbg hbo
          subst hbg hbo
          obtain ⟨A2, c2', e1, _⟩ := hrow j p hp
          obtain ⟨P, hP⟩ : ∃ P, P = p.length := ⟨_, rfl⟩
          rw [← hP] at e1
          rw [Nat.zero_add] at e1
          have hro := cutF_room (by omega) hp
          rw [← cutF_len, HK.out, ← hP] at hro
          have hrr := HR.out
          have hp1 : ¬ room < (P : Int) := by omega
          by_cases hlast : j + 1 < k
          · have hp2 : (P : Int) = room := by have := hro.2 hlast; omega
            have hl2 : (j : Int) + 1 < (k : Int) := by omega
            clear hrow hP hp hro hrr
            go_wp2_with fail
            go_roundw
            case rel => exact ⟨j + 1, by go_num, by omega, by simp⟩
            case measure => simp [intOf]; omega
          · have hl2 : ¬ (j : Int) + 1 < (k : Int) := by omega
            clear hrow hP hp hro hrr
            go_wp2_with fail
            go_roundw
            case rel => exact ⟨j + 1, by go_num, by omega, by simp⟩
            case measure => simp [intOf]; omega
        · obtain rfl : k = j := by omega
          have BS := Lib.hid B1.out.size
          go_wp2_with (at_builtin; refine wpList_tn_app (B := w.heap.size) rfl (.tmp 92) (.tmp 93) rfl rfl TN1.out BS.out HAD.out HED.out _ k k (cutF long r) rfl GM.out ?ta1 ?ta2)
          case ta1 => omega
          intro A3 c3' w2 ht2 hb2
          have B2 := Lib.hid (B1.out.trans hb2)
          have T2 := Lib.hid ht2
          clear hb2 ht2
          have B2S := Lib.hid (show w.heap.size ≤ (w2.alloc (.cells #[.int .i64 ((a + k : Nat) : Int)] 3)).heap.size from by have := B2.out.size; simp; omega)
          go_wp2_with (at_builtin; refine wpList_tn_end (B := w.heap.size) rfl (.tmp 95) (.tmp 98) rfl rfl (T2.out.later ((Below.refl _ _).alloc (Nat.le_refl _) _)) ?tb0 (some ⟨w2.heap.size, 0, none⟩) 1 1 [a + k] rfl (Sl.oneN _ _ _ _ ?tb3) ?tb1 ?tb2)
          case tb0 => have := B2.out.size; simp; omega
          case tb1 => omega
          case tb3 => first | rfl | (push_cast; omega) | omega
          intro E3 d3 w3 ht3 hb3
          have B3 := Lib.hid (B2.out.trans (((Below.refl _ _).alloc B2.out.size _).trans hb3))
          have T3 := Lib.hid ht3
          clear hb3 ht3
          go_wp2_with fail
          go_roundw
          case rel =>
            have hget := HGET.out
            have hln := lenT_next (long := long) hget
            have hkl := HK.out
            rw [cutF_len] at hkl
            have hak : lenT long L (i + 1) = a + k := by rw [hln, hkl, ← HAL.out]
            refine ⟨i + 1, a + k, c3', d3, A3, E3, rfl, rfl, by go_num, by omega, ?_, B3.out, ?_⟩
            · rw [flat_next hget, endsT_next, hak]
              exact T3.out
            · intro x hx
              rw [List.take_add_one, hget, List.mem_append] at hx
              rcases hx with hx | hx
              · exact SM.out x hx
              · simp at hx
                subst hx
                have := HM.out
                omega
          case measure => simp [intOf]; omega
    · obtain rfl : n = i := by omega
      have hTL := take_all17 L HL.out
      have hgr := TN.out.gr
      rw [hTL] at hgr
      have hsm := SM.out
      rw [hTL] at hsm
      have hfl := flat_small (long := long) L hsm
      have hal : a = lenT long L L.length := by rw [← HL.out]; exact HAL.out
      have hcl := hgr.capLe
      have GR := Lib.hid hgr
      have HFL := Lib.hid (show (L.flatMap (cutF long)).flatten.length ≤ 12856 from by have := HL.out; omega)
      have HALL := Lib.hid hal
      clear hTL hgr hsm hfl hal
      go_upto_region 20 with (fail)
      go_cut [13] (fun v wx => AtT a wr v wx)
      case first =>
        go_wp2_with fail
        all_goals
          go_meet
          exact ⟨(max 0 (min cut (a : Int))).toNat, by omega, by congr 1; omega, rfl⟩
      case rest =>
        obtain ⟨t, hta, rfl, hw⟩ := hcut
        obtain rfl : wr = _ := hw.symm
        have htc : (t : Int) ≤ (ca : Int) := by omega
        have HTA := Lib.hid hta
        clear hta
        go_wp2_with fail
        go_loopw [14, 15, 16] (fun wv uv jv wx => ∃ W u j : Nat, wv = .int .i64 (W : Int) ∧ uv = .int .i64 (u : Int) ∧ jv = .int .i64 (j : Int) ∧ W ≤ j ∧ j ≤ n ∧ u = lenT long L W ∧ u ≤ t ∧ (∀ q, W < q → q ≤ j → t < lenT long L q) ∧ wx = wr) (fun _ _ jv _ => n - (intOf jv).toNat)
        case atStart => exact ⟨0, 0, 0, rfl, rfl, rfl, by omega, by omega, (lenT_zero _ _).symm, by omega, fun q h1 h2 => by omega, by simp⟩
        case round =>
          obtain ⟨W, u, j, rfl, rfl, rfl, hW, hj, hu, hut, hq, hw⟩ := hrel
          subst hw
          have HU := Lib.hid hu
          have HQ := Lib.hid hq
          clear hu hq
          by_cases hjn : j < n
          · have hji : (j : Int) < (n : Int) := by omega
            obtain ⟨be, oe, hE, hce⟩ := TN.out.ends.sl.at_ hjn
            have hcj := hce j _ (endsT_get hjn)
            obtain ⟨x, hx⟩ : ∃ x, x = lenT long L (j + 1) := ⟨_, rfl⟩
            rw [← hx] at hcj
            have HX := Lib.hid hx
            subst hE
            clear hce hx
            by_cases hxt : x ≤ t
            · have hxi : (x : Int) ≤ (t : Int) := by omega
              go_wp2_with fail
              go_roundw
              case rel => exact ⟨j + 1, x, j + 1, by go_num, rfl, by go_num, by omega, by omega, HX.out, hxt, fun q h1 h2 => by omega, by simp⟩
              case measure => simp [intOf]; omega
            · have hxi : ¬ (x : Int) ≤ (t : Int) := by omega
              go_wp2_with fail
              go_roundw
              case rel =>
                refine ⟨W, u, j + 1, rfl, rfl, by go_num, by omega, by omega, HU.out, hut, fun q h1 h2 => ?_, by simp⟩
                rcases Nat.lt_or_ge j q with h3 | h3
                · rw [show q = j + 1 from by omega, ← HX.out]; omega
                · exact HQ.out q h1 h3
              case measure => simp [intOf]; omega
          · obtain rfl : n = j := by omega
            have hta := HTA.out
            have hfin := torn_fin (long := long) (by omega) (by omega) L t W (by have := HL.out; omega) (by rw [← HU.out]; exact hut) (fun q h1 h2 => HQ.out q h1 (by have := HL.out; omega)) (by rw [← HALL.out]; exact hta)
            rw [← HU.out] at hfin
            obtain ⟨fin1, fin2⟩ := hfin
            have FIN2 := Lib.hid fin2
            have hto := GR.out.to17 t hta
            have hall := all17_any _ _ _ _ wr hto (by have h1 := flatten_take_len (L.flatMap (cutF long)) t; have h3 := HFL.out; omega) (by omega) N1.out
            rw [fin1] at hall
            unfold RetAll at hall
            dsimp only at hall
            have hprt := GR.out.part17 u t hut hta
            have hut2 : (u : Int) ≤ (t : Int) := by omega
            have hWn : W ≤ n := by omega
            have hcp := HG.out.capLe
            have hWi : (W : Int) ≤ (cp : Int) := by omega
            have hlw : (L.take W).length = W := by rw [List.length_take]; have := HL.out; omega
            rw [hlw] at hall
            have HLW := Lib.hid hlw
            clear fin1 fin2 hto hlw
            by_cases hcu : ca = u
            · rw [if_pos hcu] at hprt
              have hcz : (ca : Int) = (u : Int) := by omega
              clear hcu
              go_wp2_with fail
              refine hall.mono ?_; clear hall; rintro e w2 ⟨XA, xc, rfl, hg2, hb2⟩
              have B2 := Lib.hid (BE.out.trans (hb2.mono BE.out.size))
              have X2 := Lib.hid hg2
              have hpt := hprt.later hb2
              have hjo := join17_any _ _ _ _ w2 hpt (by have h1 := flatten_take_len ((L.flatMap (cutF long)).drop u) (t - u); have h2 := flat_drop (L.flatMap (cutF long)) u; have h3 := HFL.out; omega) (by omega) (HN.out.keep B2.out)
              rw [FIN2.out] at hjo
              unfold RetJoin at hjo
              dsimp only at hjo
              have JO := Lib.hid hjo
              clear hg2 hb2 hprt hpt hjo
              go_wp2_with fail
              refine JO.out.mono ?_; rintro e w3 ⟨JA, jc, rfl, hs3, hb3, _⟩
              have B3 := Lib.hid (B2.out.trans (hb3.mono B2.out.size))
              have X3 := Lib.hid (X2.out.later hb3)
              have G3 := Lib.hid ((HG.out.later B3.out).to17 W hWn)
              clear hs3 hb3
              go_wp2_with fail
              refine (rsame17_any _ _ _ _ _ _ _ _ w3 X3.out G3.out).mono ?_; rintro e w4 ⟨rfl, hb4⟩
              have B4 := Lib.hid (B3.out.trans (hb4.mono B3.out.size))
              have hdc : decide (L.take W = L.take W) = true := decide_eq_true rfl
              rw [hdc]
              clear hb4 hdc
              go_wp2_with fail
              refine (frames17 w4 (HN.out.keep B4.out)).mono ?_; rintro e w5 ⟨rfl, hb5⟩
              go_wp2_with fail
              go_ret
              exact ⟨rfl, B4.out.trans (hb5.mono B4.out.size)⟩
            · rw [if_neg hcu] at hprt
              have hcz : ¬ (ca : Int) = (u : Int) := by omega
              go_wp2_with fail
              refine hall.mono ?_; clear hall; rintro e w2 ⟨XA, xc, rfl, hg2, hb2⟩
              have B2 := Lib.hid (BE.out.trans (hb2.mono BE.out.size))
              have X2 := Lib.hid hg2
              have hpt := hprt.later hb2
              have hjo := join17_any _ _ _ _ w2 hpt (by have h1 := flatten_take_len ((L.flatMap (cutF long)).drop u) (t - u); have h2 := flat_drop (L.flatMap (cutF long)) u; have h3 := HFL.out; omega) (by omega) (HN.out.keep B2.out)
              rw [FIN2.out] at hjo
              unfold RetJoin at hjo
              dsimp only at hjo
              have JO := Lib.hid hjo
              clear hg2 hb2 hprt hpt hjo
              go_wp2_with fail
              refine JO.out.mono ?_; rintro e w3 ⟨JA, jc, rfl, hs3, hb3, _⟩
              have B3 := Lib.hid (B2.out.trans (hb3.mono B2.out.size))
              have X3 := Lib.hid (X2.out.later hb3)
              have G3 := Lib.hid ((HG.out.later B3.out).to17 W hWn)
              clear hs3 hb3
              go_wp2_with fail
              refine (rsame17_any _ _ _ _ _ _ _ _ w3 X3.out G3.out).mono ?_; rintro e w4 ⟨rfl, hb4⟩
              have B4 := Lib.hid (B3.out.trans (hb4.mono B3.out.size))
              have hdc : decide (L.take W = L.take W) = true := decide_eq_true rfl
              rw [hdc]
              clear hb4 hdc
              go_wp2_with fail
              refine (frames17 w4 (HN.out.keep B4.out)).mono ?_; rintro e w5 ⟨rfl, hb5⟩
              go_wp2_with fail
              go_ret
              exact ⟨rfl, B4.out.trans (hb5.mono B4.out.size)⟩
end Go.Proofs.YtpijfghklgmefaaDoor
