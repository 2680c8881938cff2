/-
  LocateFinds returns true, whatever its arguments. No condition. (Written by gen_dqp.py.)
-/
import Derived.Test.YtabcmjbcnmedhaaGreatDql
namespace Go.Proofs.YtabcmjbcnmedhaaGreat
open Go.RowKit Go.Proofs
set_option linter.unusedVariables false

/-- The slice reads as spots: a row, a place in it, a mask each. -/
structure Spots (w : World) (A : Option Addr) (n c : Nat) (its : List (Int × Int × UInt8)) : Prop where
  len : its.length = n
  cap : n ≤ c
  top : c ≤ maxLen
  cell : ∀ (i : Nat) (x : Int × Int × UInt8), its[i]? = some x → ∃ b o, A = some ⟨b, o, none⟩ ∧ w.cell? ⟨b, o + i * 3, none⟩ = some (.int .i64 x.1) ∧ w.cell? ⟨b, o + i * 3 + 1, none⟩ = some (.int .i64 x.2.1) ∧ w.cell? ⟨b, o + i * 3 + 2, none⟩ = some (.int .u8 (x.2.2.toNat : Int))
theorem Spots.below {w w' : World} {A : Option Addr} {n c : Nat} {its : List (Int × Int × UInt8)} (h : Spots w A n c its) (hb : Below w.heap.size w w') : Spots w' A n c its :=
  ⟨h.len, h.cap, h.top, fun i x hx => by
    obtain ⟨b, o, e, h1, h2, h3⟩ := h.cell i x hx
    have hlt := World.block_lt_of_cell? w _ h1
    exact ⟨b, o, e, (hb.cell (p := ⟨b, o + i * 3, none⟩) hlt).trans h1, (hb.cell (p := ⟨b, o + i * 3 + 1, none⟩) hlt).trans h2, (hb.cell (p := ⟨b, o + i * 3 + 2, none⟩) hlt).trans h3⟩⟩
theorem Lev.get {k V : Nat} {ds : List (List UInt8)} (h : Lev k V ds) {a : Nat} (ha : a < k) : ∃ r, ds[a]? = some r ∧ r.length = V := by
  refine ⟨ds.getD a [], ?_, h.wid a ha⟩
  rw [List.getD_eq_getElem?_getD, List.getElem?_eq_getElem (by rw [h.len]; exact ha), Option.getD_some]

set_option maxRecDepth 100000 in
set_option maxHeartbeats 6400000 in
theorem locateFinds_walk (k m : Int) (A : Option Addr) (ca : Nat) (l : List UInt8) (most : Int) (AS : Option Addr) (cs0 : Nat) (its : List (Int × Int × UInt8)) (w : World) (hk : -9223372036854775808 ≤ k ∧ k < 9223372036854775808) (hm : -9223372036854775808 ≤ m ∧ m < 9223372036854775808) (ha : Sl w 1 A l.length ca (cells l)) (hmo : -9223372036854775808 ≤ most ∧ most < 9223372036854775808) (hs : Spots w AS its.length cs0 its) :
    Calls Tryz.prog 4 #[.int .i64 k, .int .i64 m, .slice A l.length ca, .int .i64 most, .slice AS its.length cs0] w (SaysTrue w) := by
  obtain ⟨V, hV⟩ : ∃ x, x = l.length := ⟨_, rfl⟩
  obtain ⟨n, hn⟩ : ∃ x, x = its.length := ⟨_, rfl⟩
  rw [← hV] at ha ⊢
  rw [← hn] at hs ⊢
  have hlima := ha.lim
  have hcap := hs.cap
  have htop := hs.top
  unfold maxLen at hlima htop
  have Ha := Lib.hid ha
  have HS := Lib.hid hs
  have HN := Lib.hid hn
  clear ha hs hV hn
  by_cases hmay : 1 ≤ k ∧ 1 ≤ m ∧ k + m ≤ 255
  · obtain ⟨K0, hK0⟩ : ∃ x : Nat, k = (x : Int) := ⟨k.toNat, by omega⟩
    obtain ⟨M0, hM0⟩ : ∃ x : Nat, m = (x : Int) := ⟨m.toNat, by omega⟩
    subst hK0; subst hM0
    have hb1 : 1 ≤ K0 := by omega
    have hb2 : 1 ≤ M0 := by omega
    have hb3 : K0 + M0 ≤ 255 := by omega
    have hkw : IntKind.i64.wrap ((K0 : Int) + (M0 : Int)) = (K0 : Int) + (M0 : Int) := by rw [IntKind.wrap_i64]; omega
    clear hmay hk hm
    by_cases h12 : (12 : Int) < (K0 : Int) + (M0 : Int)
    · go_enter Tryz.func4, Tryz.ntmps4
      go_wp2_with fail
      refine (new_any _).mono ?_; rintro e w1 ⟨rfl, hf, hb⟩
      obtain ⟨F, hF⟩ : ∃ F, F = w.heap.size + 1 := ⟨_, rfl⟩
      obtain ⟨T, hT⟩ : ∃ T, T = w.heap.size := ⟨_, rfl⟩
      rw [← hF] at hf ⊢
      rw [← hT] at hf
      have HT := Lib.hid (show w.heap.size ≤ T by omega)
      clear hF hT
      go_wp2_with fail
      refine (cnew_at F T (K0 : Int) (M0 : Int) K0 M0 rfl rfl ⟨hb1, hb2, hb3⟩ _ hf).mono ?_; rintro e w2 ⟨C, rfl, hC, hr⟩
      have L2 := Lib.hid (Lw.of hb HT.out hr hC.fld)
      have C2 := Lib.hid hC
      clear hf hb hC hr
      go_wp2_with fail
      refine (finds8_any _).mono ?_; rintro e wz ⟨rfl, hbz⟩
      have LZ := Lib.hid (L2.out.later hbz)
      clear hbz
      go_wp2_with fail
      go_ret
      exact ⟨rfl, LZ.out.bel⟩
    · by_cases hA : (200 : Int) < (V : Int)
      · go_enter Tryz.func4, Tryz.ntmps4
        go_wp2_with fail
        refine (new_any _).mono ?_; rintro e w1 ⟨rfl, hf, hb⟩
        obtain ⟨F, hF⟩ : ∃ F, F = w.heap.size + 1 := ⟨_, rfl⟩
        obtain ⟨T, hT⟩ : ∃ T, T = w.heap.size := ⟨_, rfl⟩
        rw [← hF] at hf ⊢
        rw [← hT] at hf
        have HT := Lib.hid (show w.heap.size ≤ T by omega)
        clear hF hT
        go_wp2_with fail
        refine (cnew_at F T (K0 : Int) (M0 : Int) K0 M0 rfl rfl ⟨hb1, hb2, hb3⟩ _ hf).mono ?_; rintro e w2 ⟨C, rfl, hC, hr⟩
        have L2 := Lib.hid (Lw.of hb HT.out hr hC.fld)
        have C2 := Lib.hid hC
        clear hf hb hC hr
        go_wp2_with fail
        refine (finds8_any _).mono ?_; rintro e wz ⟨rfl, hbz⟩
        have LZ := Lib.hid (L2.out.later hbz)
        clear hbz
        go_wp2_with fail
        go_ret
        exact ⟨rfl, LZ.out.bel⟩
      · by_cases hz : V = 0
        · go_enter Tryz.func4, Tryz.ntmps4
          go_wp2_with fail
          refine (new_any _).mono ?_; rintro e w1 ⟨rfl, hf, hb⟩
          obtain ⟨F, hF⟩ : ∃ F, F = w.heap.size + 1 := ⟨_, rfl⟩
          obtain ⟨T, hT⟩ : ∃ T, T = w.heap.size := ⟨_, rfl⟩
          rw [← hF] at hf ⊢
          rw [← hT] at hf
          have HT := Lib.hid (show w.heap.size ≤ T by omega)
          clear hF hT
          go_wp2_with fail
          refine (cnew_at F T (K0 : Int) (M0 : Int) K0 M0 rfl rfl ⟨hb1, hb2, hb3⟩ _ hf).mono ?_; rintro e w2 ⟨C, rfl, hC, hr⟩
          have L2 := Lib.hid (Lw.of hb HT.out hr hC.fld)
          have C2 := Lib.hid hC
          clear hf hb hC hr
          go_wp2_with fail
          refine (finds8_any _).mono ?_; rintro e wz ⟨rfl, hbz⟩
          have LZ := Lib.hid (L2.out.later hbz)
          clear hbz
          go_wp2_with fail
          go_ret
          exact ⟨rfl, LZ.out.bel⟩
        · by_cases hm0 : most < 0
          · go_enter Tryz.func4, Tryz.ntmps4
            go_wp2_with fail
            refine (new_any _).mono ?_; rintro e w1 ⟨rfl, hf, hb⟩
            obtain ⟨F, hF⟩ : ∃ F, F = w.heap.size + 1 := ⟨_, rfl⟩
            obtain ⟨T, hT⟩ : ∃ T, T = w.heap.size := ⟨_, rfl⟩
            rw [← hF] at hf ⊢
            rw [← hT] at hf
            have HT := Lib.hid (show w.heap.size ≤ T by omega)
            clear hF hT
            go_wp2_with fail
            refine (cnew_at F T (K0 : Int) (M0 : Int) K0 M0 rfl rfl ⟨hb1, hb2, hb3⟩ _ hf).mono ?_; rintro e w2 ⟨C, rfl, hC, hr⟩
            have L2 := Lib.hid (Lw.of hb HT.out hr hC.fld)
            have C2 := Lib.hid hC
            clear hf hb hC hr
            go_wp2_with fail
            refine (finds8_any _).mono ?_; rintro e wz ⟨rfl, hbz⟩
            have LZ := Lib.hid (L2.out.later hbz)
            clear hbz
            go_wp2_with fail
            go_ret
            exact ⟨rfl, LZ.out.bel⟩
          · by_cases hm2 : 2 < most
            · go_enter Tryz.func4, Tryz.ntmps4
              go_wp2_with fail
              refine (new_any _).mono ?_; rintro e w1 ⟨rfl, hf, hb⟩
              obtain ⟨F, hF⟩ : ∃ F, F = w.heap.size + 1 := ⟨_, rfl⟩
              obtain ⟨T, hT⟩ : ∃ T, T = w.heap.size := ⟨_, rfl⟩
              rw [← hF] at hf ⊢
              rw [← hT] at hf
              have HT := Lib.hid (show w.heap.size ≤ T by omega)
              clear hF hT
              go_wp2_with fail
              refine (cnew_at F T (K0 : Int) (M0 : Int) K0 M0 rfl rfl ⟨hb1, hb2, hb3⟩ _ hf).mono ?_; rintro e w2 ⟨C, rfl, hC, hr⟩
              have L2 := Lib.hid (Lw.of hb HT.out hr hC.fld)
              have C2 := Lib.hid hC
              clear hf hb hC hr
              go_wp2_with fail
              refine (finds8_any _).mono ?_; rintro e wz ⟨rfl, hbz⟩
              have LZ := Lib.hid (L2.out.later hbz)
              clear hbz
              go_wp2_with fail
              go_ret
              exact ⟨rfl, LZ.out.bel⟩
            · by_cases hmm : (M0 : Int) < 2 * most
              · go_enter Tryz.func4, Tryz.ntmps4
                go_wp2_with fail
                refine (new_any _).mono ?_; rintro e w1 ⟨rfl, hf, hb⟩
                obtain ⟨F, hF⟩ : ∃ F, F = w.heap.size + 1 := ⟨_, rfl⟩
                obtain ⟨T, hT⟩ : ∃ T, T = w.heap.size := ⟨_, rfl⟩
                rw [← hF] at hf ⊢
                rw [← hT] at hf
                have HT := Lib.hid (show w.heap.size ≤ T by omega)
                clear hF hT
                go_wp2_with fail
                refine (cnew_at F T (K0 : Int) (M0 : Int) K0 M0 rfl rfl ⟨hb1, hb2, hb3⟩ _ hf).mono ?_; rintro e w2 ⟨C, rfl, hC, hr⟩
                have L2 := Lib.hid (Lw.of hb HT.out hr hC.fld)
                have C2 := Lib.hid hC
                clear hf hb hC hr
                go_wp2_with fail
                refine (finds8_any _).mono ?_; rintro e wz ⟨rfl, hbz⟩
                have LZ := Lib.hid (L2.out.later hbz)
                clear hbz
                go_wp2_with fail
                go_ret
                exact ⟨rfl, LZ.out.bel⟩
              · by_cases hn20 : (20 : Int) < (n : Int)
                · go_enter Tryz.func4, Tryz.ntmps4
                  go_wp2_with fail
                  refine (new_any _).mono ?_; rintro e w1 ⟨rfl, hf, hb⟩
                  obtain ⟨F, hF⟩ : ∃ F, F = w.heap.size + 1 := ⟨_, rfl⟩
                  obtain ⟨T, hT⟩ : ∃ T, T = w.heap.size := ⟨_, rfl⟩
                  rw [← hF] at hf ⊢
                  rw [← hT] at hf
                  have HT := Lib.hid (show w.heap.size ≤ T by omega)
                  clear hF hT
                  go_wp2_with fail
                  refine (cnew_at F T (K0 : Int) (M0 : Int) K0 M0 rfl rfl ⟨hb1, hb2, hb3⟩ _ hf).mono ?_; rintro e w2 ⟨C, rfl, hC, hr⟩
                  have L2 := Lib.hid (Lw.of hb HT.out hr hC.fld)
                  have C2 := Lib.hid hC
                  clear hf hb hC hr
                  go_wp2_with fail
                  refine (finds8_any _).mono ?_; rintro e wz ⟨rfl, hbz⟩
                  have LZ := Lib.hid (L2.out.later hbz)
                  clear hbz
                  go_wp2_with fail
                  go_ret
                  exact ⟨rfl, LZ.out.bel⟩
                · have hzb : ((V : Int) == 0) = false := by simp; omega
                  go_enter Tryz.func4, Tryz.ntmps4
                  go_wp2_with fail
                  refine (new_any _).mono ?_; rintro e w1 ⟨rfl, hf, hb⟩
                  obtain ⟨F, hF⟩ : ∃ F, F = w.heap.size + 1 := ⟨_, rfl⟩
                  obtain ⟨T, hT⟩ : ∃ T, T = w.heap.size := ⟨_, rfl⟩
                  rw [← hF] at hf ⊢
                  rw [← hT] at hf
                  have HT := Lib.hid (show w.heap.size ≤ T by omega)
                  clear hF hT
                  go_wp2_with fail
                  refine (cnew_at F T (K0 : Int) (M0 : Int) K0 M0 rfl rfl ⟨hb1, hb2, hb3⟩ _ hf).mono ?_; rintro e w2 ⟨C, rfl, hC, hr⟩
                  have L2 := Lib.hid (Lw.of hb HT.out hr hC.fld)
                  have C2 := Lib.hid hC
                  clear hf hb hC hr
                  go_wp2_with fail
                  have S2 := Lib.hid (Ha.out.below L2.out.bel (Nat.le_refl _))
                  refine (split_any C K0 M0 F T A V ca l (V : Int) (by omega) (by omega) _ C2.out S2.out).mono ?_; rintro e w3 ⟨hb3', hR⟩
                  rcases hR with ⟨hno, _⟩ | ⟨_, hno, _⟩ | ⟨_, _, g3, rfl, hD⟩
                  · exact absurd ⟨by omega, by omega⟩ hno
                  · exfalso
                    have h5 : (V : Int) ≤ (K0 : Int) * (V : Int) := by
                      have : 1 * V ≤ K0 * V := Nat.mul_le_mul_right _ hb1
                      rw [Nat.one_mul] at this
                      rw [← Int.natCast_mul]
                      exact Int.ofNat_le.2 this
                    omega
                  rw [show ((V : Nat) : Int).toNat = V from rfl] at hD
                  obtain ⟨ds, hds⟩ : ∃ x, x = cutL l V K0 := ⟨_, rfl⟩
                  rw [← hds] at hD
                  have LD := Lib.hid (show Lev K0 V ds by rw [hds]; exact cut_lev l V K0)
                  have D3 := Lib.hid hD
                  have L3 := Lib.hid (L2.out.later hb3')
                  have C3 := Lib.hid (C2.out.later hb3')
                  clear hD hds hb3' S2 L2 C2
                  obtain ⟨N, hN⟩ : ∃ N, N = K0 + M0 := ⟨_, rfl⟩
                  have HNN := Lib.hid hN
                  have hNi : (N : Int) = (K0 : Int) + (M0 : Int) := by omega
                  clear hN
                  go_wp2_with fail
                  refine (all_any C K0 M0 F T (some ⟨g3, 0, none⟩) K0 K0 ds _ C3.out D3.out (LD.out.rows_ok (by omega))).mono ?_; rintro e w6 ⟨hb6, hR⟩
                  rcases hR with ⟨hno, _⟩ | ⟨_, AP, cp, rfl, hP⟩
                  · rw [LD.out.ev] at hno; cases hno
                  rw [← HNN.out] at hP ⊢
                  have L6 := Lib.hid (L3.out.later hb6)
                  have C6 := Lib.hid (C3.out.later hb6)
                  have D6 := Lib.hid (D3.out.later hb6)
                  have P6 := Lib.hid hP
                  clear hb6 hP L3 C3 D3
                  go_wp2_with fail
                  refine (all_own C K0 M0 F T (some ⟨g3, 0, none⟩) K0 K0 ds _ C6.out D6.out (LD.out.rows_ok (by omega))).mono ?_; rintro e w7 ⟨hb7, hR⟩
                  rcases hR with ⟨hno, _⟩ | ⟨_, A7, c7, rfl, hQ⟩
                  · rw [LD.out.ev] at hno; cases hno
                  rw [← HNN.out] at hQ ⊢
                  have hla := (LD.out.all_len (m := M0))
                  have hlv7 : Lev N V (ds ++ parL K0 ds M0) := ⟨by rw [hla, HNN.out], fun i hi => by
                    rw [LD.out.all_at i (by rw [← HNN.out]; exact hi)]
                    exact LD.out.shard_len hb1 i⟩
                  have Q7 := Lib.hid hQ
                  have HLv7 := Lib.hid hlv7
                  have Hb7 := Lib.hid hb7
                  clear hQ hlv7 hla hb7 D6
                  go_wp2_with fail
                  go_loopw [18] (fun iv wr => ∃ (i : Nat) (cs : List (List UInt8)), i ≤ n ∧ iv = .int .i64 (i : Int) ∧ Gm wr w6.heap.size A7 N c7 cs ∧ Lev N V cs ∧ Below w6.heap.size w6 wr) (fun iv _ => n - (intOf iv).toNat)
                  case atStart => exact ⟨0, _, by omega, rfl, Q7.out, HLv7.out, Hb7.out⟩
                  case round =>
                    obtain ⟨wl, rfl⟩ : ∃ x, x = wr := ⟨_, rfl⟩
                    obtain ⟨i, cs, hi, rfl, hP, hlv, hb⟩ := hrel
                    have HP := Lib.hid hP
                    have HLv := Lib.hid hlv
                    have Hb := Lib.hid hb
                    have hszl := hb.size
                    clear hP hlv hb Q7 HLv7 Hb7
                    by_cases hin : i < n
                    · have hini : (i : Int) < (n : Int) := by omega
                      obtain ⟨x, hx⟩ : ∃ x, its[i]? = some x := ⟨_, List.getElem?_eq_getElem (by rw [← HN.out]; exact hin)⟩
                      obtain ⟨b, o, rfl, hc0, hc1, hc2⟩ := (HS.out.below (L6.out.bel.trans (Hb.out.mono L6.out.bel.size))).cell i x hx
                      obtain ⟨zr, za, mask⟩ := x
                      replace hc0 : wl.cell? ⟨b, o + i * 3, none⟩ = some (.int .i64 zr) := hc0
                      replace hc1 : wl.cell? ⟨b, o + i * 3 + 1, none⟩ = some (.int .i64 za) := hc1
                      replace hc2 : wl.cell? ⟨b, o + i * 3 + 2, none⟩ = some (.int .u8 (mask.toNat : Int)) := hc2
                      have Hc1 := Lib.hid hc1
                      have Hc2 := Lib.hid hc2
                      clear hx hc1 hc2
                      go_upto_region 12 with (fail)
                      go_cut [19] from 113 to 158 (fun v wx => ∃ a : Nat, a < K0 + M0 ∧ v = .int .i64 (a : Int) ∧ wx = wl)
                      case first =>
                        go_wp2_with fail
                        all_goals
                          go_meet
                          case rel => exact ⟨(max 0 (min zr ((K0 : Int) + (M0 : Int) - 1))).toNat, by omega, by rw [Int.toNat_of_nonneg (by omega)]; first | done | (congr 1; omega), rfl⟩
                      case rest =>
                        obtain ⟨a, haN, rfl, hwc⟩ := hcut
                        subst hwc
                        clear hc0
                        have hc1 := Hc1.out
                        go_upto_region 13 with (fail)
                        go_cut [20] from 113 to 158 (fun v wx => ∃ p : Nat, p < V ∧ v = .int .i64 (p : Int) ∧ wx = wc)
                        case first =>
                          go_wp2_with fail
                          all_goals
                            go_meet
                            case rel => exact ⟨(max 0 (min za ((V : Int) - 1))).toNat, by omega, by rw [Int.toNat_of_nonneg (by omega)]; first | done | (congr 1; omega), rfl⟩
                        case rest =>
                          obtain ⟨p0, hpV, rfl, hwc⟩ := hcut
                          subst hwc
                          clear hc1
                          have hc2 := Hc2.out
                          obtain ⟨r, hra, hrl⟩ := HLv.out.get (show a < N by omega)
                          obtain ⟨bb, oo, g, cc, hA7, hbg, hgB, hcr, hcb, hset⟩ := HP.out.at_ hra (by omega)
                          subst hA7
                          rw [hrl] at hcr hcb
                          obtain ⟨hcell, hfz⟩ := hcb p0 hpV
                          obtain ⟨y, hy⟩ : ∃ y, y = r.getD p0 0 := ⟨_, rfl⟩
                          rw [← hy] at hcell
                          have Hset := Lib.hid (hset p0 (y ^^^ mask) (by omega))
                          have HL2 := Lib.hid (HLv.out.set (j := a) (now := r.set p0 (y ^^^ mask)) (by rw [List.length_set]; exact hrl))
                          have HgB := Lib.hid hgB
                          have haNi : (a : Int) < (N : Int) := by omega
                          have hpVi : (p0 : Int) < (V : Int) := by omega
                          clear hy hset hcb hbg hgB hra hrl
                          go_wp2_with fail
                          go_region
                          have X9 := Lib.hid (Below.drew (Hb.out.setCell (p := ⟨g, p0, none⟩) HgB.out (.int .u8 (bits .xor .u8 (y.toNat : Int) (mask.toNat : Int)))))
                          have P9 := Lib.hid (Hset.out.later (Below.drew (Below.refl _ _)))
                          rw [← xor_b] at P9
                          clear hcell hfz hcr HgB Hset hc2
                          go_wp2_with fail
                          go_roundw
                          case rel => exact ⟨i + 1, _, by omega, by go_num, P9.out, HL2.out, X9.out⟩
                          case measure => simp [intOf]; omega
                    · obtain rfl : i = n := by omega
                      go_wp2_with fail
                      refine (rdiffer_any AP N cp (ds ++ parL K0 ds M0) A7 N c7 cs wl (P6.out.later (Hb.out.mono (Nat.le_refl _))) HP.out.gr (by omega) (by omega)).mono ?_; rintro e w9 ⟨A9, q9, c9, rfl, hs9, hb9⟩
                      rw [LD.out.all_len, HLv.out.len, HNN.out, Nat.max_self, ← HNN.out] at hs9
                      have hq9 := hs9.len
                      rw [ncells_length, Nat.mul_one] at hq9
                      have Hq9 := Lib.hid hq9
                      have S9 := Lib.hid hs9
                      have X9 := Lib.hid (Hb.out.trans (hb9.mono Hb.out.size))
                      have P9 := Lib.hid (HP.out.gr.later hb9)
                      clear hs9 hq9 hb9
                      by_cases hfew : (most : Int) < (q9 : Int)
                      · go_wp2_with fail
                        have L9 := Lib.hid (L6.out.later X9.out)
                        refine (finds8_any _).mono ?_; rintro e wz ⟨rfl, hbz⟩
                        have LZ := Lib.hid (L9.out.later hbz)
                        clear hbz
                        go_wp2_with fail
                        go_ret
                        exact ⟨rfl, LZ.out.bel⟩
                      · go_wp2_with fail
                        have hrW : ∀ r ∈ cs, r.length ≤ 1048576 := HLv.out.rows_ok (by omega)
                        refine (find_any C K0 M0 F T A7 N c7 cs most (by omega) (by omega) w9 (C6.out.later X9.out) P9.out hrW).mono ?_; rintro e w10 ⟨hR, hb10⟩
                        have hcw : (cs.getD 0 []).length = V := HLv.out.wid 0 (by omega)
                        have hdist : offs K0 M0 cs ds ≤ most.toNat := by
                          rw [offs, difL_comm, ← HNN.out, Hq9.out]
                          omega
                        rcases hR with ⟨hno, _⟩ | ⟨_, ⟨X1, xc1, X2, xq, xc2, dn, rfl, hX, hl, hd, hle⟩ | ⟨_, hno⟩⟩
                        · exfalso
                          have hev := HLv.out.ev
                          rw [HNN.out, Int.natCast_add] at hev
                          rw [okF, hev, bearsB_t ⟨by omega, by omega, by omega, by omega⟩] at hno
                          cases hno
                        rotate_left
                        · exact absurd (by omega) (hno ds (by rw [hcw]; exact LD.out))
                        rw [hcw] at hd
                        have hds : dn = ds := by
                          refine hd.once (m := M0) LD.out hb3 (bad := cs) (t := most.toNat) (by rw [HLv.out.len, HNN.out]) (by omega) ?_ ?_
                          · rw [difL_comm]
                            have : offs K0 M0 cs dn ≤ most.toNat := by omega
                            exact this
                          · rw [difL_comm]
                            exact hdist
                        rw [hds] at hX hl
                        rw [difL_comm, ← HNN.out] at hl
                        rw [← HNN.out] at hX
                        have HX := Lib.hid hX
                        have HL := Lib.hid hl
                        have X10 := Lib.hid (X9.out.trans (hb10.mono X9.out.size))
                        have S10 := Lib.hid (S9.out.below hb10 (Nat.le_refl _))
                        have P10 := Lib.hid (P6.out.later (X10.out.mono (Nat.le_refl _)))
                        clear hX hl hd hle hds hdist hcw hb10 hrW
                        rw [← HNN.out]
                        go_wp2_with fail
                        refine (rsame5_any _ _ _ _ _ _ _ _ _ HX.out P10.out).mono ?_; rintro e w11 ⟨rfl, hb11⟩
                        rw [decide_eq_true rfl]
                        have X11 := Lib.hid (X10.out.trans (hb11.mono X10.out.size))
                        have S11 := Lib.hid (S10.out.below hb11 (Nat.le_refl _))
                        have L11 := Lib.hid (HL.out.below hb11 (Nat.le_refl _))
                        clear hb11 HX HL
                        go_wp2_with fail
                        refine (rints_any _ _ _ _ _ _ _ _ _ L11.out S11.out).mono ?_; rintro e w12 ⟨he, hb12⟩
                        rw [decide_eq_true rfl] at he
                        subst he
                        have L12 := Lib.hid (L6.out.later (X11.out.trans (hb12.mono X11.out.size)))
                        clear hb12 L11 S11
                        go_wp2_with fail
                        refine (finds8_any _).mono ?_; rintro e wz ⟨rfl, hbz⟩
                        have LZ := Lib.hid (L12.out.later hbz)
                        clear hbz
                        go_wp2_with fail
                        go_ret
                        exact ⟨rfl, LZ.out.bel⟩
  · have hmF := mayB_f hmay
    clear hmay
    go_enter Tryz.func4, Tryz.ntmps4
    go_wp2_with fail
    refine (new_any _).mono ?_; rintro e w1 ⟨rfl, hf, hb⟩
    obtain ⟨F, hF⟩ : ∃ F, F = w.heap.size + 1 := ⟨_, rfl⟩
    obtain ⟨T, hT⟩ : ∃ T, T = w.heap.size := ⟨_, rfl⟩
    rw [← hF] at hf ⊢
    rw [← hT] at hf
    have HT := Lib.hid (show w.heap.size ≤ T by omega)
    clear hF hT
    go_wp2_with fail
    refine (cnew_no F T k m hk hm hmF _ hf).mono ?_; rintro e w2 ⟨rfl, hf2, hr⟩
    have L2 := Lib.hid (Lw.of hb HT.out hr hf2)
    clear hf hb hf2 hr
    go_wp2_with fail
    refine (finds8_any _).mono ?_; rintro e wz ⟨rfl, hbz⟩
    have LZ := Lib.hid (L2.out.later hbz)
    clear hbz
    go_wp2_with fail
    go_ret
    exact ⟨rfl, LZ.out.bel⟩
end Go.Proofs.YtabcmjbcnmedhaaGreat
