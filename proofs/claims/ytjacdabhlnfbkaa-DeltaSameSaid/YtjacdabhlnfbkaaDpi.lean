/-
  DeltaSame returns true, whatever its arguments. No condition. (Written by gen_dpi.py.)
-/
import Derived.Test.YtjacdabhlnfbkaaDpe
namespace Go.Proofs.Ytjacdabhlnfbkaa
open Go.RowKit Go.Proofs
set_option linter.unusedVariables false

/-- The slice reads as steps: a number and bytes each. -/
structure Steps (w : World) (A : Option Addr) (n c : Nat) (its : List (Int × List UInt8)) : Prop where
  len : its.length = n
  cap : n ≤ c
  top : c ≤ maxLen
  cell : ∀ (i : Nat) (x : Int × List UInt8), its[i]? = some x → ∃ b o A' c', A = some ⟨b, o, none⟩ ∧ w.cell? ⟨b, o + i * 2, none⟩ = some (.int .i64 x.1) ∧ w.cell? ⟨b, o + i * 2 + 1, none⟩ = some (.slice A' x.2.length c') ∧ Sl w 1 A' x.2.length c' (cells x.2)
theorem Steps.below {w w' : World} {A : Option Addr} {n c : Nat} {its : List (Int × List UInt8)} (h : Steps w A n c its) (hb : Below w.heap.size w w') : Steps w' A n c its :=
  ⟨h.len, h.cap, h.top, fun i x hx => by
    obtain ⟨b, o, A', c', e, h1, h2, h3⟩ := h.cell i x hx
    have hlt := World.block_lt_of_cell? w _ h1
    exact ⟨b, o, A', c', e, (hb.cell (p := ⟨b, o + i * 2, none⟩) hlt).trans h1, (hb.cell (p := ⟨b, o + i * 2 + 1, none⟩) hlt).trans h2, h3.below hb (Nat.le_refl _)⟩⟩
theorem lev_noughts (k V : Nat) : Lev k V (List.replicate k (List.replicate V 0)) := ⟨by simp, fun i hi => by simp [hi]⟩
theorem Lev.rows_ok {k V : Nat} {ds : List (List UInt8)} (h : Lev k V ds) (hV : V ≤ 1048576) : ∀ r ∈ ds, r.length ≤ 1048576 := fun r hr => by
  obtain ⟨i, hi, rfl⟩ := List.mem_iff_getElem.1 hr
  have := h.wid i (by rw [← h.len]; exact hi)
  rw [List.getD_eq_getElem?_getD, List.getElem?_eq_getElem hi, Option.getD_some] at this
  omega
theorem Lev.ev {k V : Nat} {ds : List (List UInt8)} (h : Lev k V ds) : evenB ds (k : Int) = true := by rw [evenB, h.level, decide_eq_true (by rw [h.len])]; rfl
theorem Lev.allRows {k m V : Nat} {ds : List (List UInt8)} (h : Lev k V ds) (hk : 0 < k) : ∀ r ∈ ds ++ parL k ds m, r.length = V := fun r hr => by
  rcases List.mem_append.1 hr with h' | h'
  · obtain ⟨i, hi, rfl⟩ := List.mem_iff_getElem.1 h'
    have := h.wid i (by rw [← h.len]; exact hi)
    rwa [List.getD_eq_getElem?_getD, List.getElem?_eq_getElem hi] at this
  · obtain ⟨i, _, rfl⟩ := List.mem_map.1 h'
    exact h.shard_len hk _
theorem Lev.holds {k m V : Nat} {ds : List (List UInt8)} (h : Lev k V ds) (hk : 0 < k) : holdsB k m (ds ++ parL k ds m) = true := by
  have := even_of (rs := ds ++ parL k ds m) (k := k + m) (by rw [List.length_append, h.len, parL_length]) (h.allRows hk)
  rw [Int.natCast_add] at this
  rw [holdsB, this, holds_none h.len, decide_eq_true rfl]
  rfl
theorem Lev.upd_ok {k m V : Nat} {ds : List (List UInt8)} (h : Lev k V ds) {j : Nat} (hj : j < k) {now : List UInt8} (hn : now.length = V) : UpdOk k m (j : Int) (ds.getD j []) now (parL k ds m) :=
  ⟨by omega, by rw [h.wid j hj, hn], parL_length _ _ _, fun i hi => by
    have : (parL k ds m).getD i [] = shard k ds (k + i) := by simp [parL, hi]
    rw [this, h.shard_len (by omega), h.wid j hj]⟩

set_option maxRecDepth 100000 in
set_option maxHeartbeats 3200000 in
theorem deltaSame_walk (k m width : Int) (A : Option Addr) (c : Nat) (its : List (Int × List UInt8)) (w : World) (hk : -9223372036854775808 ≤ k ∧ k < 9223372036854775808) (hm : -9223372036854775808 ≤ m ∧ m < 9223372036854775808) (hw : -9223372036854775808 ≤ width ∧ width < 9223372036854775808) (h : Steps w A its.length c its) :
    Calls Try.prog 5 #[.int .i64 k, .int .i64 m, .int .i64 width, .slice A its.length c] w (SaysTrue w) := by
  obtain ⟨n, hn⟩ : ∃ n, n = its.length := ⟨_, rfl⟩
  rw [← hn] at h ⊢
  have hcap := h.cap
  have htop := h.top
  unfold maxLen at htop
  have HS := Lib.hid h
  have HN := Lib.hid hn
  clear h hn
  by_cases hmay : 1 ≤ k ∧ 1 ≤ m ∧ k + m ≤ 255
  · obtain ⟨K0, hK0⟩ : ∃ x : Nat, k = (x : Int) := ⟨k.toNat, by omega⟩
    obtain ⟨M0, hM0⟩ : ∃ x : Nat, m = (x : Int) := ⟨m.toNat, by omega⟩
    subst hK0; subst hM0
    have hb1 : 1 ≤ K0 := by omega
    have hb2 : 1 ≤ M0 := by omega
    have hb3 : K0 + M0 ≤ 255 := by omega
    have hkw : IntKind.i64.wrap ((K0 : Int) + (M0 : Int)) = (K0 : Int) + (M0 : Int) := by rw [IntKind.wrap_i64]; omega
    clear hmay hk hm
    by_cases h24 : (24 : Int) < (K0 : Int) + (M0 : Int)
    · go_enter Try.func5, Try.ntmps5
      go_wp2_with fail
      refine (new_any _).mono ?_; rintro e w1 ⟨rfl, hf, hb⟩
      obtain ⟨F, hF⟩ : ∃ F, F = w.heap.size + 1 := ⟨_, rfl⟩
      obtain ⟨T, hT⟩ : ∃ T, T = w.heap.size := ⟨_, rfl⟩
      rw [← hF] at hf ⊢
      rw [← hT] at hf
      have HT := Lib.hid (show w.heap.size ≤ T by omega)
      clear hF hT
      go_wp2_with fail
      refine (cnew_at F T (K0 : Int) (M0 : Int) K0 M0 rfl rfl ⟨hb1, hb2, hb3⟩ _ hf).mono ?_; rintro e w2 ⟨C, rfl, hC, hr⟩
      have L2 := Lib.hid (Lw.of hb HT.out hr hC.fld)
      have C2 := Lib.hid hC
      clear hf hb hC hr
      go_wp2_with fail
      refine (goes7_any _).mono ?_; rintro e wz ⟨rfl, hbz⟩
      have LZ := Lib.hid (L2.out.later hbz)
      clear hbz
      go_wp2_with fail
      go_ret
      exact ⟨rfl, LZ.out.bel⟩
    · by_cases hw0 : width < 0
      · go_enter Try.func5, Try.ntmps5
        go_wp2_with fail
        refine (new_any _).mono ?_; rintro e w1 ⟨rfl, hf, hb⟩
        obtain ⟨F, hF⟩ : ∃ F, F = w.heap.size + 1 := ⟨_, rfl⟩
        obtain ⟨T, hT⟩ : ∃ T, T = w.heap.size := ⟨_, rfl⟩
        rw [← hF] at hf ⊢
        rw [← hT] at hf
        have HT := Lib.hid (show w.heap.size ≤ T by omega)
        clear hF hT
        go_wp2_with fail
        refine (cnew_at F T (K0 : Int) (M0 : Int) K0 M0 rfl rfl ⟨hb1, hb2, hb3⟩ _ hf).mono ?_; rintro e w2 ⟨C, rfl, hC, hr⟩
        have L2 := Lib.hid (Lw.of hb HT.out hr hC.fld)
        have C2 := Lib.hid hC
        clear hf hb hC hr
        go_wp2_with fail
        refine (goes7_any _).mono ?_; rintro e wz ⟨rfl, hbz⟩
        have LZ := Lib.hid (L2.out.later hbz)
        clear hbz
        go_wp2_with fail
        go_ret
        exact ⟨rfl, LZ.out.bel⟩
      · by_cases hw2 : 200 < width
        · go_enter Try.func5, Try.ntmps5
          go_wp2_with fail
          refine (new_any _).mono ?_; rintro e w1 ⟨rfl, hf, hb⟩
          obtain ⟨F, hF⟩ : ∃ F, F = w.heap.size + 1 := ⟨_, rfl⟩
          obtain ⟨T, hT⟩ : ∃ T, T = w.heap.size := ⟨_, rfl⟩
          rw [← hF] at hf ⊢
          rw [← hT] at hf
          have HT := Lib.hid (show w.heap.size ≤ T by omega)
          clear hF hT
          go_wp2_with fail
          refine (cnew_at F T (K0 : Int) (M0 : Int) K0 M0 rfl rfl ⟨hb1, hb2, hb3⟩ _ hf).mono ?_; rintro e w2 ⟨C, rfl, hC, hr⟩
          have L2 := Lib.hid (Lw.of hb HT.out hr hC.fld)
          have C2 := Lib.hid hC
          clear hf hb hC hr
          go_wp2_with fail
          refine (goes7_any _).mono ?_; rintro e wz ⟨rfl, hbz⟩
          have LZ := Lib.hid (L2.out.later hbz)
          clear hbz
          go_wp2_with fail
          go_ret
          exact ⟨rfl, LZ.out.bel⟩
        · by_cases hn40 : (40 : Int) < (n : Int)
          · go_enter Try.func5, Try.ntmps5
            go_wp2_with fail
            refine (new_any _).mono ?_; rintro e w1 ⟨rfl, hf, hb⟩
            obtain ⟨F, hF⟩ : ∃ F, F = w.heap.size + 1 := ⟨_, rfl⟩
            obtain ⟨T, hT⟩ : ∃ T, T = w.heap.size := ⟨_, rfl⟩
            rw [← hF] at hf ⊢
            rw [← hT] at hf
            have HT := Lib.hid (show w.heap.size ≤ T by omega)
            clear hF hT
            go_wp2_with fail
            refine (cnew_at F T (K0 : Int) (M0 : Int) K0 M0 rfl rfl ⟨hb1, hb2, hb3⟩ _ hf).mono ?_; rintro e w2 ⟨C, rfl, hC, hr⟩
            have L2 := Lib.hid (Lw.of hb HT.out hr hC.fld)
            have C2 := Lib.hid hC
            clear hf hb hC hr
            go_wp2_with fail
            refine (goes7_any _).mono ?_; rintro e wz ⟨rfl, hbz⟩
            have LZ := Lib.hid (L2.out.later hbz)
            clear hbz
            go_wp2_with fail
            go_ret
            exact ⟨rfl, LZ.out.bel⟩
          · obtain ⟨V, rfl⟩ : ∃ x : Nat, width = (x : Int) := ⟨width.toNat, by omega⟩
            have hVb : V ≤ 200 := by omega
            have hnb : n ≤ 40 := by omega
            have hmk := makes_eq (K0 : Int) K0 rfl (by omega)
            have hmk2 := make_eq (V : Int) V rfl (by omega)
            go_enter Try.func5, Try.ntmps5
            go_wp2_with fail
            refine (new_any _).mono ?_; rintro e w1 ⟨rfl, hf, hb⟩
            obtain ⟨F, hF⟩ : ∃ F, F = w.heap.size + 1 := ⟨_, rfl⟩
            obtain ⟨T, hT⟩ : ∃ T, T = w.heap.size := ⟨_, rfl⟩
            rw [← hF] at hf ⊢
            rw [← hT] at hf
            have HT := Lib.hid (show w.heap.size ≤ T by omega)
            clear hF hT
            go_wp2_with fail
            refine (cnew_at F T (K0 : Int) (M0 : Int) K0 M0 rfl rfl ⟨hb1, hb2, hb3⟩ _ hf).mono ?_; rintro e w2 ⟨C, rfl, hC, hr⟩
            have L2 := Lib.hid (Lw.of hb HT.out hr hC.fld)
            have C2 := Lib.hid hC
            clear hf hb hC hr
            go_wp2_with fail
            have hF0 := Fil.made w2 K0
            have hb3 : Below w2.heap.size w2 (w2.alloc (.cells (madeCells #[.slice none 0 0] K0) 22)) := (Below.refl _ _).alloc (Nat.le_refl _) _
            obtain ⟨g, hgd⟩ : ∃ g, g = w2.heap.size := ⟨_, rfl⟩
            obtain ⟨w3, hw3⟩ : ∃ x, x = w2.alloc (.cells (madeCells #[.slice none 0 0] K0) 22) := ⟨_, rfl⟩
            rw [← hw3] at hF0 hb3 ⊢
            rw [← hgd] at hF0 ⊢
            have Hb3 := Lib.hid hb3
            have F3 := Lib.hid hF0
            have hw2g : w2.heap.size ≤ g := by omega
            clear hF0 hb3 hgd hw3
            go_wp2_with fail
            go_loopw [11] (fun iv wr => ∃ (i : Nat) (cur : Array Value), i ≤ K0 ∧ iv = .int .i64 (i : Int) ∧ Fil wr g K0 cur (List.replicate i (List.replicate V 0)) ∧ Below w2.heap.size w2 wr) (fun iv _ => K0 - (intOf iv).toNat)
            case atStart => exact ⟨0, _, by omega, rfl, F3.out, Hb3.out⟩
            case round =>
              obtain ⟨wl, rfl⟩ : ∃ x, x = wr := ⟨_, rfl⟩
              obtain ⟨i, cur, hi, rfl, hF, hb⟩ := hrel
              have Fq := Lib.hid hF
              have Hb := Lib.hid hb
              have hszl := hb.size
              have hgl := block_lt hF.row
              clear hF hb
              by_cases hlt : i < K0
              · have hlti : (i : Int) < (K0 : Int) := by omega
                obtain ⟨v0, hv0⟩ := Fq.out.has hlt
                have hz0 := Fq.out.free i
                go_wp2_with fail
                have hF9 : Fil ((wl.setCell ⟨g, i, none⟩ (.slice (some ⟨wl.heap.size, 0, none⟩) V V)).alloc (.cells (madeCells #[.int .u8 0] V) 5)) g K0 (cur.setIfInBounds i (.slice (some ⟨wl.heap.size, 0, none⟩) (List.replicate V (0 : UInt8)).length V)) (List.replicate i (List.replicate V 0) ++ [List.replicate V 0]) := by
                  have hfr : Fr (fun k => k = g) wl ((wl.setCell ⟨g, i, none⟩ (.slice (some ⟨wl.heap.size, 0, none⟩) V V)).alloc (.cells (madeCells #[.int .u8 0] V) 5)) := (Fr.setCell (S := fun k => k = g) (Fr.refl _ _) (.inr rfl) _).alloc _
                  have hsn := Sl.noughts (wl.setCell ⟨g, i, none⟩ (.slice (some ⟨wl.heap.size, 0, none⟩) V V)) V (by unfold maxLen; omega)
                  rw [show (wl.setCell ⟨g, i, none⟩ (.slice (some ⟨wl.heap.size, 0, none⟩) V V)).heap.size = wl.heap.size from by simp] at hsn
                  refine Fq.out.next hfr (by simp) hlt ?_ (by rw [List.length_replicate]; exact hsn) (fun b o hn e => by injection e with e; injection e with e _; omega)
                  rw [List.length_replicate]
                  exact (Below.heap_alloc _ _ _ (by simp; omega)).trans (heap_setCell_same wl g i cur _ _ Fq.out.row)
                rw [show List.replicate i (List.replicate V (0 : UInt8)) ++ [List.replicate V 0] = List.replicate (i + 1) (List.replicate V 0) from by rw [List.replicate_succ']] at hF9
                have HF9 := Lib.hid hF9
                clear hF9 hv0 hz0
                go_roundw
                case rel => exact ⟨i + 1, _, by omega, by go_num, HF9.out, (Hb.out.setCell (p := ⟨g, i, none⟩) hw2g _).alloc (by simp; omega) _⟩
                case measure => simp [intOf]; omega
              · obtain rfl : i = K0 := by omega
                go_wp2_with fail
                have hlv0 := lev_noughts i V
                obtain ⟨ds0, hds0⟩ : ∃ x, x = List.replicate i (List.replicate V (0 : UInt8)) := ⟨_, rfl⟩
                rw [← hds0] at hlv0 Fq
                have Hlv0 := Lib.hid hlv0
                clear hlv0 hds0
                refine (encode_own C i M0 F T (some ⟨g, 0, none⟩) i i ds0 _ (C2.out.later Hb.out) (Fq.out.gr Hlv0.out.len (by unfold maxLen; omega)) (Hlv0.out.rows_ok (by omega))).mono ?_; rintro e w4 ⟨hb4, hR⟩
                rcases hR with ⟨hno, _⟩ | ⟨_, gp, rfl, _, hP⟩
                · rw [Hlv0.out.ev] at hno; cases hno
                have P4 := Lib.hid hP.gr
                have F4 := Lib.hid (Fq.out.later hb4)
                have Hb4 := Lib.hid (Hb.out.trans (hb4.mono hszl))
                clear hP hb4 Fq Hb hszl hgl
                go_wp2_with fail
                go_loopw [12, 14] (fun pv iv wr => ∃ (s : Nat) (cur : Array Value) (ds : List (List UInt8)) (Ap : Option Addr) (cp : Nat), s ≤ n ∧ iv = .int .i64 (s : Int) ∧ pv = .slice Ap M0 cp ∧ Fil wr g i cur ds ∧ Lev i V ds ∧ Gr wr Ap M0 cp (parL i ds M0) ∧ Below w2.heap.size w2 wr) (fun _ iv _ => n - (intOf iv).toNat)
                case atStart => exact ⟨0, _, ds0, _, _, by omega, rfl, rfl, F4.out, Hlv0.out, P4.out, Hb4.out⟩
                case round =>
                  obtain ⟨wl, rfl⟩ : ∃ x, x = wr := ⟨_, rfl⟩
                  obtain ⟨s, cur, ds, Ap, cp, hs, rfl, rfl, hF, hlv, hP, hb⟩ := hrel
                  have Fq := Lib.hid hF
                  have HLv := Lib.hid hlv
                  have HP := Lib.hid hP
                  have Hb := Lib.hid hb
                  have hszl := hb.size
                  clear hF hlv hP hb F4 P4 Hb4 Hlv0
                  by_cases hin : s < n
                  · have hini : (s : Int) < (n : Int) := by omega
                    obtain ⟨x, hx⟩ : ∃ x, its[s]? = some x := ⟨_, List.getElem?_eq_getElem (by rw [← HN.out]; exact hin)⟩
                    obtain ⟨b, o, Ar, cr, rfl, hc0, hc1, hrow⟩ := (HS.out.below (L2.out.bel.trans (Hb.out.mono L2.out.bel.size))).cell s x hx
                    obtain ⟨z, row⟩ := x
                    obtain ⟨Lr, hLr⟩ : ∃ x, x = row.length := ⟨_, rfl⟩
                    replace hc0 : wl.cell? ⟨b, o + s * 2, none⟩ = some (.int .i64 z) := hc0
                    replace hc1 : wl.cell? ⟨b, o + s * 2 + 1, none⟩ = some (.slice Ar row.length cr) := hc1
                    replace hrow : Sl wl 1 Ar row.length cr (cells row) := hrow
                    rw [← hLr] at hc1 hrow
                    have hlimr := hrow.lim
                    unfold maxLen at hlimr
                    have hblt := World.block_lt_of_cell? wl _ hc1
                    have HLr := Lib.hid hLr
                    have Hrow := Lib.hid hrow
                    have Hc1 := Lib.hid hc1
                    clear hLr hrow hx hc1
                    go_upto_region 15 with (fail)
                    go_cut [15] from 69 to 130 (fun v wx => ∃ j : Nat, j < i ∧ v = .int .i64 (j : Int) ∧ wx = wl)
                    case first =>
                      go_wp2_with fail
                      all_goals
                        go_meet
                        case rel => exact ⟨(max 0 (min z ((i : Int) - 1))).toNat, by omega, by rw [Int.toNat_of_nonneg (by omega)]; first | done | (congr 1; omega), rfl⟩
                    case rest =>
                      obtain ⟨j, hjK, rfl, hwc⟩ := hcut
                      subst hwc
                      clear hc0
                      go_wp2_with fail
                      go_loopw [17] (fun av wx => ∃ (p : Nat) (nl : List UInt8), p ≤ V ∧ av = .int .i64 (p : Int) ∧ nl.length = V ∧ Mine wx wc.heap.size 5 (some ⟨wc.heap.size, 0, none⟩) V (cells nl) ∧ Below wc.heap.size wc wx) (fun av _ => V - (intOf av).toNat)
                      case atStart => exact ⟨0, List.replicate V 0, by omega, rfl, by simp, Mine.noughts wc V, (Below.refl _ _).alloc (Nat.le_refl _) _⟩
                      case round =>
                        obtain ⟨wx, rfl⟩ : ∃ x, x = wr := ⟨_, rfl⟩
                        obtain ⟨p, nl, hp, rfl, hnl, hm, hbx⟩ := hrel
                        have hM := Lib.hid hm
                        have HBx := Lib.hid hbx
                        have hszx := hbx.size
                        have r1 := hbx.cell (p := ⟨b, o + s * 2 + 1, none⟩) hblt
                        rw [Hc1.out] at r1
                        clear hm hbx
                        by_cases hpV : p < V
                        · have hpVi : (p : Int) < (V : Int) := by omega
                          by_cases hpL : p < Lr
                          · have hpLi : (p : Int) < (Lr : Int) := by omega
                            obtain ⟨gx, egx, _, hcx, hzx⟩ := hM.out.at_ hpV (u := nl.getD p 0) (by rw [List.getD_eq_getElem?_getD, List.getElem?_eq_getElem (by rw [hnl]; exact hpV)]; rfl)
                            injection egx with egx; injection egx with egx _
                            subst egx
                            obtain ⟨br, or', rfl, hcr⟩ := (Hrow.out.below HBx.out (Nat.le_refl _)).at_ hpL
                            have hcell := hcr p _ (cells_get row p (by rw [← HLr.out]; exact hpL))
                            rw [bv] at hcell
                            obtain ⟨y, hy⟩ : ∃ y, y = row[p]'(by rw [← HLr.out]; exact hpL) := ⟨_, rfl⟩
                            rw [← hy] at hcell
                            clear hcr hy
                            go_wp2_with fail
                            go_roundw
                            case rel => exact ⟨p + 1, nl.set p y, by omega, by go_num, by rw [List.length_set]; exact hnl, hM.out.set hpV y, HBx.out.setCell (Nat.le_refl _) _⟩
                            case measure => simp [intOf]; omega
                          · have hpLi : ¬ (p : Int) < (Lr : Int) := by omega
                            have hsn := hM.out.sl hnl (Nat.le_refl _) (by unfold maxLen; omega)
                            have Fx := Lib.hid (Fq.out.later HBx.out)
                            obtain ⟨A0, c0, h1, h2, _⟩ := Fx.out.rows j (ds.getD j []) (by rw [List.getD_eq_getElem?_getD, List.getElem?_eq_getElem (by rw [HLv.out.len]; exact hjK)]; rfl)
                            have q0 : wx.cell? ⟨g, j, none⟩ = some (.slice A0 (ds.getD j []).length c0) := by rw [cell_of_row _ _ _ _ _ _ Fx.out.row]; exact h1
                            rw [HLv.out.wid j hjK] at q0 h2
                            have hjKi : (j : Int) < (i : Int) := by omega
                            have Hsn := Lib.hid hsn
                            have Hs0 := Lib.hid h2
                            have Hnl := Lib.hid hnl
                            have Hbx := Lib.hid (Hb.out.trans (HBx.out.mono hszl))
                            clear hsn h1 h2 hnl
                            go_wp2_with fail
                            clear q0
                            refine (dupdate_new C i M0 F T j A0 V c0 (ds.getD j []) (some ⟨wc.heap.size, 0, none⟩) V V nl Ap M0 cp (parL i ds M0) _ (C2.out.later Hbx.out) Hs0.out Hsn.out (HP.out.later HBx.out) (by omega) (HLv.out.upd_ok hjK Hnl.out)).mono ?_; rintro e w7 ⟨⟨A7, c7, rfl, hG, hnew⟩, hb7⟩
                            rw [HLv.out.upd hjK Hnl.out] at hG
                            have F7 := Lib.hid (Fx.out.later hb7)
                            have G7 := Lib.hid hG
                            have Hb7 := Lib.hid (Hbx.out.trans (hb7.mono Hbx.out.size))
                            have Hs7 := Lib.hid (Hsn.out.below hb7 (Nat.le_refl _))
                            have Hnew := Lib.hid hnew
                            have hgx : g < wx.heap.size := block_lt Fx.out.row
                            have Hsz7 := Lib.hid hb7.size
                            have Hszx := Lib.hid HBx.out.size
                            have Hgl := Lib.hid (show g < wc.heap.size from block_lt Fq.out.row)
                            obtain ⟨v0, hv0⟩ := F7.out.has hjK
                            have hz0 := F7.out.free j
                            clear hG hnew hb7 Fx
                            go_wp2_with fail
                            have hF9 : Fil (w7.setCell ⟨g, j, none⟩ (.slice (some ⟨wc.heap.size, 0, none⟩) V V)) g i (cur.setIfInBounds j (.slice (some ⟨wc.heap.size, 0, none⟩) nl.length V)) (ds.set j nl) := by
                              have hfr : Fr (fun k => k = g) w7 (w7.setCell ⟨g, j, none⟩ (.slice (some ⟨wc.heap.size, 0, none⟩) V V)) := Fr.setCell (S := fun k => k = g) (Fr.refl _ _) (.inr rfl) _
                              refine F7.out.put hfr hjK (by rw [Hnl.out]; exact heap_setCell_same w7 g j cur _ _ F7.out.row) ?_ (fun b o hn e => by injection e with e; injection e with e _; have := Hgl.out; omega)
                              rw [Hnl.out]
                              exact Hs7.out.fr hfr fun b o hn e hk => by
                                have hk : b = g := hk
                                injection e with e; injection e with e _
                                have := Hgl.out
                                omega
                            have hP9 : Gr (w7.setCell ⟨g, j, none⟩ (.slice (some ⟨wc.heap.size, 0, none⟩) V V)) A7 M0 c7 (parL i (ds.set j nl) M0) :=
                              G7.out.offG F7.out HLv.out.len (fun b o e => by have := Hnew.out b o e; omega) (Fr.setCell (S := fun k => k = g) (Fr.refl _ _) (.inr rfl) _)
                            have HF9 := Lib.hid hF9
                            have HP9 := Lib.hid hP9
                            have HL9 := Lib.hid (HLv.out.set (j := j) Hnl.out)
                            clear hF9 hP9 hv0 hz0
                            go_roundw
                            case rel => exact ⟨s + 1, _, ds.set j nl, A7, c7, by omega, by go_num, rfl, HF9.out, HL9.out, HP9.out, Hb7.out.setCell (p := ⟨g, j, none⟩) hw2g _⟩
                            case measure => simp [intOf]; omega
                        · have hpVi : ¬ (p : Int) < (V : Int) := by omega
                          have hsn := hM.out.sl hnl (Nat.le_refl _) (by unfold maxLen; omega)
                          have Fx := Lib.hid (Fq.out.later HBx.out)
                          obtain ⟨A0, c0, h1, h2, _⟩ := Fx.out.rows j (ds.getD j []) (by rw [List.getD_eq_getElem?_getD, List.getElem?_eq_getElem (by rw [HLv.out.len]; exact hjK)]; rfl)
                          have q0 : wx.cell? ⟨g, j, none⟩ = some (.slice A0 (ds.getD j []).length c0) := by rw [cell_of_row _ _ _ _ _ _ Fx.out.row]; exact h1
                          rw [HLv.out.wid j hjK] at q0 h2
                          have hjKi : (j : Int) < (i : Int) := by omega
                          have Hsn := Lib.hid hsn
                          have Hs0 := Lib.hid h2
                          have Hnl := Lib.hid hnl
                          have Hbx := Lib.hid (Hb.out.trans (HBx.out.mono hszl))
                          clear hsn h1 h2 hnl
                          go_wp2_with fail
                          clear q0
                          refine (dupdate_new C i M0 F T j A0 V c0 (ds.getD j []) (some ⟨wc.heap.size, 0, none⟩) V V nl Ap M0 cp (parL i ds M0) _ (C2.out.later Hbx.out) Hs0.out Hsn.out (HP.out.later HBx.out) (by omega) (HLv.out.upd_ok hjK Hnl.out)).mono ?_; rintro e w7 ⟨⟨A7, c7, rfl, hG, hnew⟩, hb7⟩
                          rw [HLv.out.upd hjK Hnl.out] at hG
                          have F7 := Lib.hid (Fx.out.later hb7)
                          have G7 := Lib.hid hG
                          have Hb7 := Lib.hid (Hbx.out.trans (hb7.mono Hbx.out.size))
                          have Hs7 := Lib.hid (Hsn.out.below hb7 (Nat.le_refl _))
                          have Hnew := Lib.hid hnew
                          have hgx : g < wx.heap.size := block_lt Fx.out.row
                          have Hsz7 := Lib.hid hb7.size
                          have Hszx := Lib.hid HBx.out.size
                          have Hgl := Lib.hid (show g < wc.heap.size from block_lt Fq.out.row)
                          obtain ⟨v0, hv0⟩ := F7.out.has hjK
                          have hz0 := F7.out.free j
                          clear hG hnew hb7 Fx
                          go_wp2_with fail
                          have hF9 : Fil (w7.setCell ⟨g, j, none⟩ (.slice (some ⟨wc.heap.size, 0, none⟩) V V)) g i (cur.setIfInBounds j (.slice (some ⟨wc.heap.size, 0, none⟩) nl.length V)) (ds.set j nl) := by
                            have hfr : Fr (fun k => k = g) w7 (w7.setCell ⟨g, j, none⟩ (.slice (some ⟨wc.heap.size, 0, none⟩) V V)) := Fr.setCell (S := fun k => k = g) (Fr.refl _ _) (.inr rfl) _
                            refine F7.out.put hfr hjK (by rw [Hnl.out]; exact heap_setCell_same w7 g j cur _ _ F7.out.row) ?_ (fun b o hn e => by injection e with e; injection e with e _; have := Hgl.out; omega)
                            rw [Hnl.out]
                            exact Hs7.out.fr hfr fun b o hn e hk => by
                              have hk : b = g := hk
                              injection e with e; injection e with e _
                              have := Hgl.out
                              omega
                          have hP9 : Gr (w7.setCell ⟨g, j, none⟩ (.slice (some ⟨wc.heap.size, 0, none⟩) V V)) A7 M0 c7 (parL i (ds.set j nl) M0) :=
                            G7.out.offG F7.out HLv.out.len (fun b o e => by have := Hnew.out b o e; omega) (Fr.setCell (S := fun k => k = g) (Fr.refl _ _) (.inr rfl) _)
                          have HF9 := Lib.hid hF9
                          have HP9 := Lib.hid hP9
                          have HL9 := Lib.hid (HLv.out.set (j := j) Hnl.out)
                          clear hF9 hP9 hv0 hz0
                          go_roundw
                          case rel => exact ⟨s + 1, _, ds.set j nl, A7, c7, by omega, by go_num, rfl, HF9.out, HL9.out, HP9.out, Hb7.out.setCell (p := ⟨g, j, none⟩) hw2g _⟩
                          case measure => simp [intOf]; omega
                  · obtain rfl : s = n := by omega
                    go_wp2_with fail
                    refine (encode_any C i M0 F T (some ⟨g, 0, none⟩) i i ds _ (C2.out.later Hb.out) (Fq.out.gr HLv.out.len (by unfold maxLen; omega)) (HLv.out.rows_ok (by omega))).mono ?_; rintro e w8 ⟨hb8, hR⟩
                    rcases hR with ⟨hno, _⟩ | ⟨_, gw, rfl, hQ⟩
                    · rw [HLv.out.ev] at hno; cases hno
                    have Q8 := Lib.hid hQ
                    have P8 := Lib.hid (HP.out.later hb8)
                    have D8 := Lib.hid ((Fq.out.gr HLv.out.len (by unfold maxLen; omega)).later hb8)
                    have X8 := Lib.hid (Hb.out.trans (hb8.mono hszl))
                    clear hQ hb8
                    go_wp2_with (at_builtin; refine wpList_append_g (B := w8.heap.size) rfl (.tmp 137) (.tmp 138) rfl rfl (Gg.nil w8 w8.heap.size) (Nat.le_refl _) (some ⟨g, 0, none⟩) i i ds rfl D8.out ?pa (fun _ _ _ _ _ _ _ _ _ => Oth.none _ _) ?pc)
                    case pa => omega
                    intro A9 c9 w9 hG9 hb9 hsz9 _
                    have hfar := P8.out.far hb9 (fun b o e => (hG9.own b o e).1)
                    have G9 := Lib.hid hG9
                    have Far := Lib.hid hfar
                    have P9 := Lib.hid (P8.out.later hb9)
                    have Hb9 := Lib.hid hb9
                    clear hG9 hfar hb9 D8
                    go_wp2_with (at_builtin; refine wpList_append_g (B := w8.heap.size) rfl (.tmp 139) (.tmp 140) rfl rfl G9.out ?qa Ap M0 cp (parL i ds M0) rfl P9.out ?qb Far.out ?qc)
                    case qa => omega
                    case qb => omega
                    intro A10 c10 w10 hG10 hb10 hsz10 hf10
                    have hb10' := Hb9.out.trans hb10
                    obtain ⟨N, hN⟩ : ∃ N, N = i + M0 := ⟨_, rfl⟩
                    rw [← hN] at hG10 ⊢
                    have G10 := Lib.hid hG10.gr
                    have P10 := Lib.hid (P8.out.later hb10')
                    have Q10 := Lib.hid (Q8.out.later hb10')
                    have X10 := Lib.hid (X8.out.trans (hb10'.mono X8.out.size))
                    clear hG10 hb10 hb10' hf10 hN G9 P9 Far Hb9 P8 Q8
                    go_wp2_with fail
                    refine (rsame5_any _ _ _ _ _ _ _ _ _ P10.out Q10.out).mono ?_; rintro e w11 ⟨rfl, hb11⟩
                    rw [decide_eq_true rfl]
                    have G11 := Lib.hid (G10.out.later hb11)
                    have X11 := Lib.hid (X10.out.trans (hb11.mono X10.out.size))
                    clear P10 Q10 G10 hb11
                    go_wp2_with fail
                    refine (dholds_any C i M0 F T A10 N c10 _ _ (C2.out.later X11.out) G11.out (fun r hr => by rw [HLv.out.allRows (by omega) r hr]; omega)).mono ?_; rintro e w12 ⟨he, hb12⟩
                    rw [HLv.out.holds (by omega)] at he
                    subst he
                    have L12 := Lib.hid (L2.out.later (X11.out.trans (hb12.mono X11.out.size)))
                    clear hb12 G11
                    go_wp2_with fail
                    refine (goes7_any _).mono ?_; rintro e wz ⟨rfl, hbz⟩
                    have LZ := Lib.hid (L12.out.later hbz)
                    clear hbz
                    go_wp2_with fail
                    go_ret
                    exact ⟨rfl, LZ.out.bel⟩
  · have hmF := mayB_f hmay
    clear hmay
    go_enter Try.func5, Try.ntmps5
    go_wp2_with fail
    refine (new_any _).mono ?_; rintro e w1 ⟨rfl, hf, hb⟩
    obtain ⟨F, hF⟩ : ∃ F, F = w.heap.size + 1 := ⟨_, rfl⟩
    obtain ⟨T, hT⟩ : ∃ T, T = w.heap.size := ⟨_, rfl⟩
    rw [← hF] at hf ⊢
    rw [← hT] at hf
    have HT := Lib.hid (show w.heap.size ≤ T by omega)
    clear hF hT
    go_wp2_with fail
    refine (cnew_no F T k m hk hm hmF _ hf).mono ?_; rintro e w2 ⟨rfl, hf2, hr⟩
    have L2 := Lib.hid (Lw.of hb HT.out hr hf2)
    clear hf hb hf2 hr
    go_wp2_with fail
    refine (goes7_any _).mono ?_; rintro e wz ⟨rfl, hbz⟩
    have LZ := Lib.hid (L2.out.later hbz)
    clear hbz
    go_wp2_with fail
    go_ret
    exact ⟨rfl, LZ.out.bel⟩
end Go.Proofs.Ytjacdabhlnfbkaa
