/-
  PoolOnce returns true, whatever its arguments. Condition: the table reads as the row lists it ('Tz'). (Written by gen_efm.py.)
-/
import Derived.Test.YtgkdpljlgdlekaaDoorEfl
import Derived.Deep.CutBlock
import Derived.Deep.DeepCutAuto
import Derived.Deep.LoopGhost
namespace Go.Proofs.YtgkdpljlgdlekaaDoor
open Go.RowKit Go.Proofs
set_option linter.unusedVariables false
set_option maxRecDepth 20000

set_option maxHeartbeats 1600000 in
theorem poolOnce_walk (x0 x1 : Int) (A : Option Addr) (c : Nat) (its : List At14) (W : World) (b0 : -9223372036854775808 ≤ x0 ∧ x0 < 9223372036854775808) (b1 : -9223372036854775808 ≤ x1 ∧ x1 < 9223372036854775808) (h : Ats14 W A its.length c its) (hN : Tz W) :
    Calls Tryd.prog 3 #[.int .i64 x0, .int .i64 x1, .slice A its.length c] W fun e w' => e = .returned (.bool true) ∧ Below W.heap.size W w' := by
  by_cases hnew : 0 ≤ x0 ∧ 1 ≤ x1 ∧ x1 ≤ 400 ∧ x0 + x1 ≤ 600
  case neg =>
    have h1 := pnew_no x0 x1 b0.2 b1.1 hnew W
    have hg := gives14_any W hN
    clear hnew h hN
    go_enter Tryd.func3, Tryd.ntmps3
    go_wp2_with fail
    refine h1.mono ?_; clear h1; rintro e w1 ⟨rfl, hw⟩
    obtain rfl : W = w1 := hw.symm
    go_wp2_with fail
    refine hg.mono ?_; clear hg; rintro e w1 ⟨rfl, hb⟩
    have HB := Lib.hid hb
    clear hb
    go_wp2_with fail
    go_ret
    exact ⟨rfl, HB.out⟩
  case pos =>
  obtain ⟨a, rfl⟩ : ∃ a : Nat, x0 = (a : Int) := ⟨x0.toNat, by omega⟩
  obtain ⟨n, rfl⟩ : ∃ n : Nat, x1 = (n : Int) := ⟨x1.toNat, by omega⟩
  obtain ⟨N, hNe⟩ : ∃ N, N = its.length := ⟨_, rfl⟩
  rw [← hNe] at h ⊢
  have h1 := pnew_yes a n (by omega) (by omega) (by omega) W
  have han : a + n ≤ 600 := by omega
  have h63 := h.top
  have hcap := h.cap
  unfold maxLen at h63
  have H := Lib.hid h
  have HN := Lib.hid hN
  have HE := Lib.hid hNe
  clear h hN hNe b0 b1 hnew
  go_enter Tryd.func3, Tryd.ntmps3
  go_wp2_with fail
  refine h1.mono ?_; clear h1; rintro e w1 ⟨S, P, rfl, hp, hb, hS⟩
  have hg := gives14_any w1 (HN.out.keep hb)
  have hfew := few14_any A N c its w1 (H.out.below hb)
  have HB := Lib.hid hb
  have HP := Lib.hid hp
  have HS := Lib.hid hS
  clear hp hb hS
  by_cases hbig : (100 : Int) < (n : Int)
  · clear hfew
    go_wp2_with fail
    refine hg.mono ?_; clear hg; rintro e w2 ⟨rfl, hb⟩
    have HB2 := Lib.hid (HB.out.trans (hb.mono HB.out.size))
    clear hb
    go_wp2_with fail
    go_ret
    exact ⟨rfl, HB2.out⟩
  go_wp2_with fail
  refine hfew.mono ?_; clear hfew; rintro e w2 ⟨β, rfl, hw, hsh⟩
  obtain rfl : w1 = w2 := hw.symm
  cases β
  · go_wp2_with fail
    refine hg.mono ?_; clear hg; rintro e w2 ⟨rfl, hb⟩
    have HB2 := Lib.hid (HB.out.trans (hb.mono HB.out.size))
    clear hb
    go_wp2_with fail
    go_ret
    exact ⟨rfl, HB2.out⟩
  have HSH := Lib.hid (hsh rfl)
  clear hsh
  have hlast := fun (w : World) (hb : Below W.heap.size W w) => gives14_any w (HN.out.keep hb)
  have HL := Lib.hid hlast
  clear hg hlast
  go_wp2_with fail
  go_loopg [8, 9, 10] N (fun gk ov lv iv wr => ∃ (i : Nat) (p : Ps) (oA : Option Addr) (oc : Nat) (out : List Int) (lA : Option Addr) (lc : Nat) (lim : List Int), ov = .slice oA out.length oc ∧ lv = .slice lA lim.length lc ∧ iv = .int .i64 (i : Int) ∧ i ≤ N ∧ N - i ≤ gk ∧ Mem14 W wr S P a n p oA oc out lA lc lim ∧ Books p out lim)
  case atStart => exact ⟨0, newP a n, none, 0, [], none, 0, [], rfl, rfl, rfl, by omega, by omega, ⟨⟨HP.out, HB.out, HS.out⟩, rfl, rfl, .inl ⟨rfl, rfl, rfl, rfl⟩, .inl ⟨rfl, rfl, rfl, rfl⟩, fun b hb => (by obtain ⟨o, e⟩ := hb; cases e), fun b hb => (by obtain ⟨o, e⟩ := hb; cases e), fun b hb => (by obtain ⟨o, e⟩ := hb; cases e)⟩, Books.new a n⟩
  case round =>
    obtain ⟨G, hG⟩ : ∃ x, x = gk := ⟨_, rfl⟩
    subst hG
    obtain ⟨i, p, oA, oc, out, lA, lc, lim, hov, hlv, rfl, hi, hgk, hJ, hBK⟩ := hrel
    subst hov hlv
    obtain ⟨wo, rfl⟩ : ∃ x, x = wr := ⟨_, rfl⟩
    have J := Lib.hid hJ
    have BK := Lib.hid hBK
    clear hJ hBK
    by_cases hlt : i < N
    · have hii : (i : Int) < (N : Int) := by omega
      obtain ⟨x, hx⟩ : ∃ x, its[i]? = some x := ⟨_, List.getElem?_eq_getElem (by rw [← HE.out]; exact hlt)⟩
      obtain ⟨kind, z, L, LA, Lc, e0⟩ := x
      obtain ⟨ba, oa, rfl, hcell0, hok0⟩ := H.out.cell i _ hx
      have hcell : ∀ (j : Nat) u, (⟨kind, z, L, LA, Lc, e0⟩ : At14).vals[j]? = some u → wo.cell? ⟨ba, oa + i * 4 + j, none⟩ = some u := fun j u hu => (J.out.lw.bel.cell (p := ⟨ba, oa + i * 4 + j, none⟩) (World.block_lt_of_cell? W _ (hcell0 j u hu))).trans (hcell0 j u hu)
      have hshort := HSH.out _ (List.mem_of_getElem? hx)
      have k0 := hcell 0 _ rfl
      have k1 := hcell 1 _ rfl
      have k2 := hcell 2 _ rfl
      have k3 := hcell 3 _ rfl
      have hz2 := hok0.n2
      dsimp only at k0 k1 k2 k3 hshort hz2
      rw [Nat.add_zero] at k0
      have hsm := J.out.few BK.out
      obtain ⟨q, hq⟩ : ∃ q, q = L.length := ⟨_, rfl⟩
      obtain ⟨lo, hlo⟩ : ∃ q, q = out.length := ⟨_, rfl⟩
      obtain ⟨ll, hll⟩ : ∃ q, q = lim.length := ⟨_, rfl⟩
      rw [← hq] at k2 hshort
      rw [← hlo, ← hll] at hsm
      rw [← hlo, ← hll]
      obtain ⟨hlo4, hll4⟩ := hsm
      obtain ⟨wl, hwl⟩ : ∃ y, y = wo.alloc (.cells #[.int .i64 kind, .int .i64 z, .slice LA q Lc, .int .u64 (e0 : Int)] 30) := ⟨_, rfl⟩
      have hbl : Below wo.heap.size wo wl := by rw [hwl]; exact (Below.refl _ _).alloc (Nat.le_refl _) _
      have hxl : wl.heap[wo.heap.size]? = some (.cells #[.int .i64 kind, .int .i64 z, .slice LA q Lc, .int .u64 (e0 : Int)] 30 (0, 0)) := by rw [hwl]; exact heap_alloc_new wo _
      have C0 : wl.cell? ⟨wo.heap.size, 0, none⟩ = some (.int .i64 kind) := by rw [cell_of_row _ _ _ _ _ _ hxl]; rfl
      have C1 := Lib.hid (show wl.cell? ⟨wo.heap.size, 1, none⟩ = some (.int .i64 z) by rw [cell_of_row _ _ _ _ _ _ hxl]; rfl)
      have C2 := Lib.hid (show wl.cell? ⟨wo.heap.size, 2, none⟩ = some (.slice LA q Lc) by rw [cell_of_row _ _ _ _ _ _ hxl]; rfl)
      have XS := Lib.hid (show ¬ S wo.heap.size from fun k => by have := J.out.lw.pl.lt _ k; omega)
      have XO := Lib.hid (show ¬ Bk oA wo.heap.size from fun k => by have := J.out.ro.lt k; omega)
      have XL := Lib.hid (show ¬ Bk lA wo.heap.size from fun k => by have := J.out.rl.lt k; omega)
      have JL := Lib.hid (J.out.later hbl)
      have HLS := Lib.hid (show Sl W 1 LA q Lc (icells L) from hq ▸ hok0.L)
      have HLZ := Lib.hid (show ∀ y ∈ L, y < 9223372036854775808 from fun y hy => (hok0.z y hy).2)
      have HLB := Lib.hid (show ∀ b o, 0 < q → LA = some ⟨b, o, none⟩ → ¬ S b from fun b o h0 e hs => by
        have h1 := (show Sl W 1 LA q Lc (icells L) from hq ▸ hok0.L).lt (by decide) h0 e
        have := J.out.lw.lo b hs
        omega)
      have HQ := Lib.hid hq
      have HLO := Lib.hid hlo
      have HLL := Lib.hid hll
      have HBL := Lib.hid hbl
      rw [hwl] at C0
      clear hcell hcell0 hok0 hx J hbl hxl hq hlo hll HB HP HS HSH
      go_upto_block 2 with fail
      rw [← hwl]
      clear hwl k0 k1 k2 k3 C0
      go_cut [8, 9, 12, 13, 14, 15] (fun ov lv _ _ _ _ wx => ∃ (p' : Ps) (oA' : Option Addr) (oc' : Nat) (out' : List Int) (lA' : Option Addr) (lc' : Nat) (lim' : List Int), ov = .slice oA' out'.length oc' ∧ lv = .slice lA' lim'.length lc' ∧ Mem14 W wx S P a n p' oA' oc' out' lA' lc' lim' ∧ Books p' out' lim')
      case first =>
        by_cases hk : kind = 0 ∨ kind = 1 ∨ kind = 2
        · as_aux_lemma =>
            have ht := take14_all z hz2 JL.out.lw HN.out
            have c1 := C1.out
            go_step
            go_step
            go_cut [43] (fun v wx => v = .bool true ∧ wx = wl)
            case first =>
              rcases hk with rfl | rfl | rfl
              all_goals
                go_wp2_with fail
                go_meet
                case rel => exact ⟨rfl, rfl⟩
            case rest =>
              obtain ⟨h43, hwc⟩ := hcut
              subst h43 hwc
              clear hk
              go_wp2_with fail
              refine ht.mono ?_; clear ht; rintro e w2 ⟨A2, c2, m, l, er, rfl, hlm, hm4, her, hs, hlw, hf, hmem, hnd⟩
              have J2 := Lib.hid (JL.out.turn hlw.pl rfl rfl hf)
              have HS2 := Lib.hid hs
              have HLM := Lib.hid hlm
              have HME := Lib.hid hmem
              have HND := Lib.hid hnd
              clear hs hlm hmem hnd hlw hf c1
              go_upto_region 15 with fail
              go_cut [60] (fun v wx => v = .bool false ∧ wx = w2)
              case first =>
                rcases her with rfl | ⟨hne, rfl⟩
                · go_wp2_with fail
                  go_meet
                  case rel => exact ⟨rfl, rfl⟩
                · have hnb : (er != 0) = true := by simpa using hne
                  have HE0 := Lib.hid hne
                  clear hne
                  go_wp2_with fail
                  go_meet
                  case rel => exact ⟨rfl, rfl⟩
              case rest =>
                obtain ⟨h60, hwc⟩ := hcut
                subst h60 hwc
                clear her
                go_wp2_with fail
                go_loopw [14] (fun kv wx => ∃ k : Nat, k ≤ m ∧ kv = .int .i64 (k : Int) ∧ Below wc.heap.size wc wx) (fun kv _ => m - (intOf kv).toNat)
                case atStart => exact ⟨0, by omega, rfl, Below.refl _ _⟩
                case round =>
                  obtain ⟨k, hk, rfl, hb⟩ := hrel
                  obtain ⟨wk, rfl⟩ : ∃ x, x = wr := ⟨_, rfl⟩
                  have hsk := HS2.out.below hb (Nat.le_refl _)
                  have JK := J2.out.later hb
                  have ro := JK.ro
                  rw [← HLO.out] at ro
                  by_cases hkm : k < m
                  · have hki : (k : Int) < (m : Int) := by omega
                    obtain ⟨y, ey, f1, f2, f3, f4, f5⟩ := BK.out.each JL.out.lw.pl.ok HME.out HND.out (k := k) (by rw [HLM.out]; exact hkm)
                    rw [JL.out.pa] at f4 f5
                    rw [JL.out.pn] at f5
                    have hkz : k < (intsOf (placesL p l)).length := by rw [intsOf_length, placesL, List.length_map, HLM.out]; exact hkm
                    have htk : ((intsOf (placesL p l)).take k).length = k := by rw [List.length_take]; omega
                    have hkc : (k : Int) ≤ (c2 : Int) := by have := hsk.cap; omega
                    obtain ⟨bg, og, rfl, hcg⟩ := hsk.at_ hkm
                    have hcy := hcg k _ (icells_at hkz)
                    rw [ey] at hcy
                    have rl := JK.rl
                    rw [← HLL.out] at rl
                    have hin1 := in14_any y oA lo oc out wk.drew ro.sl.drew HLO.out.symm
                    have hin2 := in14_any y lA ll lc lim wk.drew rl.sl.drew HLL.out.symm
                    have hin3 := in14_any y (some ⟨bg, og, none⟩) k c2 ((intsOf (placesL p l)).take k) wk.drew (hsk.takeI (by omega)).drew htk
                    rw [f1] at hin1
                    rw [f2] at hin2
                    rw [f3] at hin3
                    have HC := Lib.hid hcy
                    have HY1 := Lib.hid (show ¬ y < (a : Int) by omega)
                    have HY2 := Lib.hid (show ¬ y ≥ (a : Int) + (n : Int) by omega)
                    have HW := Lib.hid (show IntKind.i64.wrap ((a : Int) + (n : Int)) = (a : Int) + (n : Int) by rw [IntKind.wrap_i64]; omega)
                    have HB := Lib.hid hb
                    clear ey f1 f2 f3 f4 f5 hkz htk hcg hcy rl ro JK hsk hb
                    go_wp2_with fail
                    refine wp_region_held_drew (S := fun w' => Fr (fun _ => False) wk.drew w') (by kernel_rfl) (Fr.refl _ _) (fun hHeld => ?_)
                    clear hHeld
                    refine wpAnyH_take (i := 0) (oi := ⟨some 67, _, _, _, _, _⟩) (v := ?vk0) rfl (by kernel_rfl) (by kernel_rfl) (by kernel_rfl) (fun _ _ _ h => h) (Or.inl ⟨by rfl, ?yk0⟩) (Fr.refl _ _) ?rk0
                    case yk0 =>
                      intro wq hSw
                      (try dsimp only at hSw)
                      first | (go_simp; done) | (go_simp; with_reducible rfl)
                    try simp only [Act.put, List.setIfInBounds_toArray, List.set_cons_zero, List.set_cons_succ]
                    refine wpAnyH_take (i := 1) (oi := ⟨some 68, _, _, _, _, _⟩) (v := ?vk1) rfl (by kernel_rfl) (by kernel_rfl) (by kernel_rfl) (fun _ _ _ h => h) (Or.inl ⟨by rfl, ?yk1⟩) (Fr.refl _ _) ?rk1
                    case yk1 =>
                      intro wq hSw
                      (try dsimp only at hSw)
                      first | (go_simp; done) | (go_simp; with_reducible rfl)
                    try simp only [Act.put, List.setIfInBounds_toArray, List.set_cons_zero, List.set_cons_succ]
                    refine wpAnyH_take (i := 2) (oi := ⟨some 69, _, _, _, _, _⟩) (v := ?vk2) rfl (by kernel_rfl) (by kernel_rfl) (by kernel_rfl) (fun _ _ _ h => h) (Or.inl ⟨by rfl, ?yk2⟩) (Fr.refl _ _) ?rk2
                    case yk2 =>
                      intro wq hSw
                      (try dsimp only at hSw)
                      first | (go_simp; done) | (go_simp; with_reducible rfl)
                    try simp only [Act.put, List.setIfInBounds_toArray, List.set_cons_zero, List.set_cons_succ]
                    refine wpAnyH_take (i := 3) (oi := ⟨some 70, _, _, _, _, _⟩) (v := ?vk3) rfl (by kernel_rfl) (by kernel_rfl) (by kernel_rfl) (fun _ _ _ h => h) (Or.inl ⟨by rfl, ?yk3⟩) (Fr.refl _ _) ?rk3
                    case yk3 =>
                      intro wq hSw
                      (try dsimp only at hSw)
                      have hq := hSw.cell_some HC.out (fun h => h)
                      first | (go_simp; done) | (go_simp; with_reducible rfl)
                    try simp only [Act.put, List.setIfInBounds_toArray, List.set_cons_zero, List.set_cons_succ]
                    refine wpAnyH_take (i := 4) (oi := ⟨some 71, _, _, _, _, _⟩) (v := ?vk4) rfl (by kernel_rfl) (by kernel_rfl) (by kernel_rfl) (fun _ _ _ h => h) (Or.inl ⟨by rfl, ?yk4⟩) (Fr.refl _ _) ?rk4
                    case yk4 =>
                      intro wq hSw
                      (try dsimp only at hSw)
                      first | (go_simp; done) | (go_simp; with_reducible rfl)
                    try simp only [Act.put, List.setIfInBounds_toArray, List.set_cons_zero, List.set_cons_succ]
                    refine wpAnyH_ready (rs := [5]) (by kernel_rfl) (by simp) ?_
                    refine AllReadyH.cons (o := ⟨some 72, _, _, _, _, _⟩) rfl (fun K hK => ?_) AllReadyH.nil
                    go_simp
                    refine hin1.mono ?_; rintro e v9 ⟨rfl, hw⟩
                    obtain rfl : wk.drew = v9 := hw.symm
                    have hfr : Fr (fun _ => False) wk.drew wk.drew := Fr.refl _ _
                    go_wp2_with fail
                    refine hK.out _ _ hfr (fun hHeld => ?_)
                    clear hK K hHeld
                    try simp only [Act.put, List.setIfInBounds_toArray, List.set_cons_zero, List.set_cons_succ]
                    refine wpAnyH_re (S' := fun w' => Fr (fun _ => False) wk.drew w') (fun w' h => hfr.trans h) ?_
                    clear hfr
                    refine wpAnyH_take (i := 6) (oi := ⟨some 73, _, _, _, _, _⟩) (v := ?vk6) rfl (by kernel_rfl) (by kernel_rfl) (by kernel_rfl) (fun _ _ _ h => h) (Or.inl ⟨by rfl, ?yk6⟩) (Fr.refl _ _) ?rk6
                    case yk6 =>
                      intro wq hSw
                      (try dsimp only at hSw)
                      first | (go_simp; done) | (go_simp; with_reducible rfl)
                    try simp only [Act.put, List.setIfInBounds_toArray, List.set_cons_zero, List.set_cons_succ]
                    refine wpAnyH_take (i := 7) (oi := ⟨some 74, _, _, _, _, _⟩) (v := ?vk7) rfl (by kernel_rfl) (by kernel_rfl) (by kernel_rfl) (fun _ _ _ h => h) (Or.inl ⟨by rfl, ?yk7⟩) (Fr.refl _ _) ?rk7
                    case yk7 =>
                      intro wq hSw
                      (try dsimp only at hSw)
                      first | (go_simp; done) | (go_simp; with_reducible rfl)
                    try simp only [Act.put, List.setIfInBounds_toArray, List.set_cons_zero, List.set_cons_succ]
                    refine wpAnyH_take (i := 8) (oi := ⟨some 75, _, _, _, _, _⟩) (v := ?vk8) rfl (by kernel_rfl) (by kernel_rfl) (by kernel_rfl) (fun _ _ _ h => h) (Or.inl ⟨by rfl, ?yk8⟩) (Fr.refl _ _) ?rk8
                    case yk8 =>
                      intro wq hSw
                      (try dsimp only at hSw)
                      first | (go_simp; done) | (go_simp; with_reducible rfl)
                    try simp only [Act.put, List.setIfInBounds_toArray, List.set_cons_zero, List.set_cons_succ]
                    refine wpAnyH_take (i := 9) (oi := ⟨some 76, _, _, _, _, _⟩) (v := ?vk9) rfl (by kernel_rfl) (by kernel_rfl) (by kernel_rfl) (fun _ _ _ h => h) (Or.inl ⟨by rfl, ?yk9⟩) (Fr.refl _ _) ?rk9
                    case yk9 =>
                      intro wq hSw
                      (try dsimp only at hSw)
                      first | (go_simp; done) | (go_simp; with_reducible rfl)
                    try simp only [Act.put, List.setIfInBounds_toArray, List.set_cons_zero, List.set_cons_succ]
                    refine wpAnyH_take (i := 10) (oi := ⟨some 77, _, _, _, _, _⟩) (v := ?vk10) rfl (by kernel_rfl) (by kernel_rfl) (by kernel_rfl) (fun _ _ _ h => h) (Or.inl ⟨by rfl, ?yk10⟩) (Fr.refl _ _) ?rk10
                    case yk10 =>
                      intro wq hSw
                      (try dsimp only at hSw)
                      have hq := hSw.cell_some HC.out (fun h => h)
                      first | (go_simp; done) | (go_simp; with_reducible rfl)
                    try simp only [Act.put, List.setIfInBounds_toArray, List.set_cons_zero, List.set_cons_succ]
                    refine wpAnyH_take (i := 11) (oi := ⟨some 78, _, _, _, _, _⟩) (v := ?vk11) rfl (by kernel_rfl) (by kernel_rfl) (by kernel_rfl) (fun _ _ _ h => h) (Or.inl ⟨by rfl, ?yk11⟩) (Fr.refl _ _) ?rk11
                    case yk11 =>
                      intro wq hSw
                      (try dsimp only at hSw)
                      first | (go_simp; done) | (go_simp; with_reducible rfl)
                    try simp only [Act.put, List.setIfInBounds_toArray, List.set_cons_zero, List.set_cons_succ]
                    refine wpAnyH_ready (rs := [12]) (by kernel_rfl) (by simp) ?_
                    refine AllReadyH.cons (o := ⟨some 79, _, _, _, _, _⟩) rfl (fun K hK => ?_) AllReadyH.nil
                    go_simp
                    refine hin2.mono ?_; rintro e v9 ⟨rfl, hw⟩
                    obtain rfl : wk.drew = v9 := hw.symm
                    have hfr : Fr (fun _ => False) wk.drew wk.drew := Fr.refl _ _
                    go_wp2_with fail
                    refine hK.out _ _ hfr (fun hHeld => ?_)
                    clear hK K hHeld
                    try simp only [Act.put, List.setIfInBounds_toArray, List.set_cons_zero, List.set_cons_succ]
                    refine wpAnyH_re (S' := fun w' => Fr (fun _ => False) wk.drew w') (fun w' h => hfr.trans h) ?_
                    clear hfr
                    refine wpAnyH_take (i := 13) (oi := ⟨some 80, _, _, _, _, _⟩) (v := ?vk13) rfl (by kernel_rfl) (by kernel_rfl) (by kernel_rfl) (fun _ _ _ h => h) (Or.inl ⟨by rfl, ?yk13⟩) (Fr.refl _ _) ?rk13
                    case yk13 =>
                      intro wq hSw
                      (try dsimp only at hSw)
                      first | (go_simp; done) | (go_simp; with_reducible rfl)
                    try simp only [Act.put, List.setIfInBounds_toArray, List.set_cons_zero, List.set_cons_succ]
                    refine wpAnyH_take (i := 14) (oi := ⟨some 81, _, _, _, _, _⟩) (v := ?vk14) rfl (by kernel_rfl) (by kernel_rfl) (by kernel_rfl) (fun _ _ _ h => h) (Or.inl ⟨by rfl, ?yk14⟩) (Fr.refl _ _) ?rk14
                    case yk14 =>
                      intro wq hSw
                      (try dsimp only at hSw)
                      first | (go_simp; done) | (go_simp; with_reducible rfl)
                    try simp only [Act.put, List.setIfInBounds_toArray, List.set_cons_zero, List.set_cons_succ]
                    refine wpAnyH_take (i := 15) (oi := ⟨some 82, _, _, _, _, _⟩) (v := ?vk15) rfl (by kernel_rfl) (by kernel_rfl) (by kernel_rfl) (fun _ _ _ h => h) (Or.inl ⟨by rfl, ?yk15⟩) (Fr.refl _ _) ?rk15
                    case yk15 =>
                      intro wq hSw
                      (try dsimp only at hSw)
                      first | (go_simp; done) | (go_simp; with_reducible rfl)
                    try simp only [Act.put, List.setIfInBounds_toArray, List.set_cons_zero, List.set_cons_succ]
                    refine wpAnyH_take (i := 16) (oi := ⟨some 83, _, _, _, _, _⟩) (v := ?vk16) rfl (by kernel_rfl) (by kernel_rfl) (by kernel_rfl) (fun _ _ _ h => h) (Or.inl ⟨by rfl, ?yk16⟩) (Fr.refl _ _) ?rk16
                    case yk16 =>
                      intro wq hSw
                      (try dsimp only at hSw)
                      first | (go_simp; done) | (go_simp; with_reducible rfl)
                    try simp only [Act.put, List.setIfInBounds_toArray, List.set_cons_zero, List.set_cons_succ]
                    refine wpAnyH_take (i := 17) (oi := ⟨some 84, _, _, _, _, _⟩) (v := ?vk17) rfl (by kernel_rfl) (by kernel_rfl) (by kernel_rfl) (fun _ _ _ h => h) (Or.inl ⟨by rfl, ?yk17⟩) (Fr.refl _ _) ?rk17
                    case yk17 =>
                      intro wq hSw
                      (try dsimp only at hSw)
                      first | (go_simp; done) | (go_simp; with_reducible rfl)
                    try simp only [Act.put, List.setIfInBounds_toArray, List.set_cons_zero, List.set_cons_succ]
                    refine wpAnyH_take (i := 18) (oi := ⟨some 85, _, _, _, _, _⟩) (v := ?vk18) rfl (by kernel_rfl) (by kernel_rfl) (by kernel_rfl) (fun _ _ _ h => h) (Or.inl ⟨by rfl, ?yk18⟩) (Fr.refl _ _) ?rk18
                    case yk18 =>
                      intro wq hSw
                      (try dsimp only at hSw)
                      have hq := hSw.cell_some HC.out (fun h => h)
                      first | (go_simp; done) | (go_simp; with_reducible rfl)
                    try simp only [Act.put, List.setIfInBounds_toArray, List.set_cons_zero, List.set_cons_succ]
                    refine wpAnyH_take (i := 19) (oi := ⟨some 86, _, _, _, _, _⟩) (v := ?vk19) rfl (by kernel_rfl) (by kernel_rfl) (by kernel_rfl) (fun _ _ _ h => h) (Or.inl ⟨by rfl, ?yk19⟩) (Fr.refl _ _) ?rk19
                    case yk19 =>
                      intro wq hSw
                      (try dsimp only at hSw)
                      first | (go_simp; done) | (go_simp; with_reducible rfl)
                    try simp only [Act.put, List.setIfInBounds_toArray, List.set_cons_zero, List.set_cons_succ]
                    refine wpAnyH_take (i := 20) (oi := ⟨some 87, _, _, _, _, _⟩) (v := ?vk20) rfl (by kernel_rfl) (by kernel_rfl) (by kernel_rfl) (fun _ _ _ h => h) (Or.inl ⟨by rfl, ?yk20⟩) (Fr.refl _ _) ?rk20
                    case yk20 =>
                      intro wq hSw
                      (try dsimp only at hSw)
                      first | (go_simp; done) | (go_simp; with_reducible rfl)
                    try simp only [Act.put, List.setIfInBounds_toArray, List.set_cons_zero, List.set_cons_succ]
                    refine wpAnyH_take (i := 21) (oi := ⟨some 88, _, _, _, _, _⟩) (v := ?vk21) rfl (by kernel_rfl) (by kernel_rfl) (by kernel_rfl) (fun _ _ _ h => h) (Or.inl ⟨by rfl, ?yk21⟩) (Fr.refl _ _) ?rk21
                    case yk21 =>
                      intro wq hSw
                      (try dsimp only at hSw)
                      first | (go_simp; done) | (go_simp; with_reducible rfl)
                    try simp only [Act.put, List.setIfInBounds_toArray, List.set_cons_zero, List.set_cons_succ]
                    refine wpAnyH_ready (rs := [22]) (by kernel_rfl) (by simp) ?_
                    refine AllReadyH.cons (o := ⟨some 89, _, _, _, _, _⟩) rfl (fun K hK => ?_) AllReadyH.nil
                    go_simp
                    refine hin3.mono ?_; rintro e v9 ⟨rfl, hw⟩
                    obtain rfl : wk.drew = v9 := hw.symm
                    have hfr : Fr (fun _ => False) wk.drew wk.drew := Fr.refl _ _
                    go_wp2_with fail
                    refine hK.out _ _ hfr (fun hHeld => ?_)
                    clear hK K hHeld
                    try simp only [Act.put, List.setIfInBounds_toArray, List.set_cons_zero, List.set_cons_succ]
                    refine wpAnyH_re (S' := fun w' => Fr (fun _ => False) wk.drew w') (fun w' h => hfr.trans h) ?_
                    clear hfr
                    refine wpAnyH_take (i := 23) (oi := ⟨some 90, _, _, _, _, _⟩) (v := ?vk23) rfl (by kernel_rfl) (by kernel_rfl) (by kernel_rfl) (fun _ _ _ h => h) (Or.inl ⟨by rfl, ?yk23⟩) (Fr.refl _ _) ?rk23
                    case yk23 =>
                      intro wq hSw
                      (try dsimp only at hSw)
                      first | (go_simp; done) | (go_simp; with_reducible rfl)
                    try simp only [Act.put, List.setIfInBounds_toArray, List.set_cons_zero, List.set_cons_succ]
                    refine wpAnyH_take (i := 24) (oi := ⟨some 91, _, _, _, _, _⟩) (v := ?vk24) rfl (by kernel_rfl) (by kernel_rfl) (by kernel_rfl) (fun _ _ _ h => h) (Or.inl ⟨by rfl, ?yk24⟩) (Fr.refl _ _) ?rk24
                    case yk24 =>
                      intro wq hSw
                      (try dsimp only at hSw)
                      first | (go_simp; done) | (go_simp; with_reducible rfl)
                    try simp only [Act.put, List.setIfInBounds_toArray, List.set_cons_zero, List.set_cons_succ]
                    refine wpAnyH_take (i := 25) (oi := ⟨some 92, _, _, _, _, _⟩) (v := ?vk25) rfl (by kernel_rfl) (by kernel_rfl) (by kernel_rfl) (fun _ _ _ h => h) (Or.inl ⟨by rfl, ?yk25⟩) (Fr.refl _ _) ?rk25
                    case yk25 =>
                      intro wq hSw
                      (try dsimp only at hSw)
                      first | (go_simp; done) | (go_simp; with_reducible rfl)
                    try simp only [Act.put, List.setIfInBounds_toArray, List.set_cons_zero, List.set_cons_succ]
                    refine wpAnyH_take (i := 26) (oi := ⟨some 93, _, _, _, _, _⟩) (v := ?vk26) rfl (by kernel_rfl) (by kernel_rfl) (by kernel_rfl) (fun _ _ _ h => h) (Or.inl ⟨by rfl, ?yk26⟩) (Fr.refl _ _) ?rk26
                    case yk26 =>
                      intro wq hSw
                      (try dsimp only at hSw)
                      first | (go_simp; done) | (go_simp; with_reducible rfl)
                    try simp only [Act.put, List.setIfInBounds_toArray, List.set_cons_zero, List.set_cons_succ]
                    refine wpAnyH_take (i := 27) (oi := ⟨some 94, _, _, _, _, _⟩) (v := ?vk27) rfl (by kernel_rfl) (by kernel_rfl) (by kernel_rfl) (fun _ _ _ h => h) (Or.inl ⟨by rfl, ?yk27⟩) (Fr.refl _ _) ?rk27
                    case yk27 =>
                      intro wq hSw
                      (try dsimp only at hSw)
                      first | (go_simp; done) | (go_simp; with_reducible rfl)
                    try simp only [Act.put, List.setIfInBounds_toArray, List.set_cons_zero, List.set_cons_succ]
                    refine wpAnyH_take (i := 28) (oi := ⟨some 95, _, _, _, _, _⟩) (v := ?vk28) rfl (by kernel_rfl) (by kernel_rfl) (by kernel_rfl) (fun _ _ _ h => h) (Or.inl ⟨by rfl, ?yk28⟩) (Fr.refl _ _) ?rk28
                    case yk28 =>
                      intro wq hSw
                      (try dsimp only at hSw)
                      have hq := hSw.cell_some HC.out (fun h => h)
                      first | (go_simp; done) | (go_simp; with_reducible rfl)
                    try simp only [Act.put, List.setIfInBounds_toArray, List.set_cons_zero, List.set_cons_succ]
                    refine wpAnyH_take (i := 29) (oi := ⟨some 96, _, _, _, _, _⟩) (v := ?vk29) rfl (by kernel_rfl) (by kernel_rfl) (by kernel_rfl) (fun _ _ _ h => h) (Or.inl ⟨by rfl, ?yk29⟩) (Fr.refl _ _) ?rk29
                    case yk29 =>
                      intro wq hSw
                      (try dsimp only at hSw)
                      first | (go_simp; done) | (go_simp; with_reducible rfl)
                    try simp only [Act.put, List.setIfInBounds_toArray, List.set_cons_zero, List.set_cons_succ]
                    refine wpAnyH_take (i := 30) (oi := ⟨some 97, _, _, _, _, _⟩) (v := (.bool false)) rfl (by kernel_rfl) (by kernel_rfl) (by kernel_rfl) (fun _ _ _ h => h) (Or.inl ⟨by rfl, ?yk30⟩) (Fr.refl _ _) ?rk30
                    case yk30 =>
                      intro wq hSw
                      exact step_lt14 (x := .tmp 95) (y := .tmp 96) rfl rfl rfl (decide_eq_false (by have := HY1.out; omega))
                    try simp only [Act.put, List.setIfInBounds_toArray, List.set_cons_zero, List.set_cons_succ]
                    refine wpAnyH_take (i := 31) (oi := ⟨some 98, _, _, _, _, _⟩) (v := ?vk31) rfl (by kernel_rfl) (by kernel_rfl) (by kernel_rfl) (fun _ _ _ h => h) (Or.inl ⟨by rfl, ?yk31⟩) (Fr.refl _ _) ?rk31
                    case yk31 =>
                      intro wq hSw
                      (try dsimp only at hSw)
                      first | (go_simp; done) | (go_simp; with_reducible rfl)
                    try simp only [Act.put, List.setIfInBounds_toArray, List.set_cons_zero, List.set_cons_succ]
                    refine wpAnyH_take (i := 32) (oi := ⟨some 99, _, _, _, _, _⟩) (v := ?vk32) rfl (by kernel_rfl) (by kernel_rfl) (by kernel_rfl) (fun _ _ _ h => h) (Or.inl ⟨by rfl, ?yk32⟩) (Fr.refl _ _) ?rk32
                    case yk32 =>
                      intro wq hSw
                      (try dsimp only at hSw)
                      first | (go_simp; done) | (go_simp; with_reducible rfl)
                    try simp only [Act.put, List.setIfInBounds_toArray, List.set_cons_zero, List.set_cons_succ]
                    refine wpAnyH_take (i := 33) (oi := ⟨some 100, _, _, _, _, _⟩) (v := ?vk33) rfl (by kernel_rfl) (by kernel_rfl) (by kernel_rfl) (fun _ _ _ h => h) (Or.inl ⟨by rfl, ?yk33⟩) (Fr.refl _ _) ?rk33
                    case yk33 =>
                      intro wq hSw
                      (try dsimp only at hSw)
                      first | (go_simp; done) | (go_simp; with_reducible rfl)
                    try simp only [Act.put, List.setIfInBounds_toArray, List.set_cons_zero, List.set_cons_succ]
                    refine wpAnyH_take (i := 34) (oi := ⟨some 101, _, _, _, _, _⟩) (v := ?vk34) rfl (by kernel_rfl) (by kernel_rfl) (by kernel_rfl) (fun _ _ _ h => h) (Or.inl ⟨by rfl, ?yk34⟩) (Fr.refl _ _) ?rk34
                    case yk34 =>
                      intro wq hSw
                      (try dsimp only at hSw)
                      first | (go_simp; done) | (go_simp; with_reducible rfl)
                    try simp only [Act.put, List.setIfInBounds_toArray, List.set_cons_zero, List.set_cons_succ]
                    refine wpAnyH_take (i := 35) (oi := ⟨some 102, _, _, _, _, _⟩) (v := ?vk35) rfl (by kernel_rfl) (by kernel_rfl) (by kernel_rfl) (fun _ _ _ h => h) (Or.inl ⟨by rfl, ?yk35⟩) (Fr.refl _ _) ?rk35
                    case yk35 =>
                      intro wq hSw
                      (try dsimp only at hSw)
                      first | (go_simp; done) | (go_simp; with_reducible rfl)
                    try simp only [Act.put, List.setIfInBounds_toArray, List.set_cons_zero, List.set_cons_succ]
                    refine wpAnyH_take (i := 36) (oi := ⟨some 103, _, _, _, _, _⟩) (v := ?vk36) rfl (by kernel_rfl) (by kernel_rfl) (by kernel_rfl) (fun _ _ _ h => h) (Or.inl ⟨by rfl, ?yk36⟩) (Fr.refl _ _) ?rk36
                    case yk36 =>
                      intro wq hSw
                      (try dsimp only at hSw)
                      have hq := hSw.cell_some HC.out (fun h => h)
                      first | (go_simp; done) | (go_simp; with_reducible rfl)
                    try simp only [Act.put, List.setIfInBounds_toArray, List.set_cons_zero, List.set_cons_succ]
                    refine wpAnyH_take (i := 37) (oi := ⟨some 104, _, _, _, _, _⟩) (v := ?vk37) rfl (by kernel_rfl) (by kernel_rfl) (by kernel_rfl) (fun _ _ _ h => h) (Or.inl ⟨by rfl, ?yk37⟩) (Fr.refl _ _) ?rk37
                    case yk37 =>
                      intro wq hSw
                      (try dsimp only at hSw)
                      first | (go_simp; done) | (go_simp; with_reducible rfl)
                    try simp only [Act.put, List.setIfInBounds_toArray, List.set_cons_zero, List.set_cons_succ]
                    refine wpAnyH_take (i := 38) (oi := ⟨some 105, _, _, _, _, _⟩) (v := ?vk38) rfl (by kernel_rfl) (by kernel_rfl) (by kernel_rfl) (fun _ _ _ h => h) (Or.inl ⟨by rfl, ?yk38⟩) (Fr.refl _ _) ?rk38
                    case yk38 =>
                      intro wq hSw
                      (try dsimp only at hSw)
                      first | (go_simp; done) | (go_simp; with_reducible rfl)
                    try simp only [Act.put, List.setIfInBounds_toArray, List.set_cons_zero, List.set_cons_succ]
                    refine wpAnyH_take (i := 39) (oi := ⟨some 106, _, _, _, _, _⟩) (v := (.int .i64 ((a : Int) + (n : Int)))) rfl (by kernel_rfl) (by kernel_rfl) (by kernel_rfl) (fun _ _ _ h => h) (Or.inl ⟨by rfl, ?yk39⟩) (Fr.refl _ _) ?rk39
                    case yk39 =>
                      intro wq hSw
                      exact step_add14 (x := .tmp 104) (y := .tmp 105) rfl rfl rfl HW.out
                    try simp only [Act.put, List.setIfInBounds_toArray, List.set_cons_zero, List.set_cons_succ]
                    refine wpAnyH_take (i := 40) (oi := ⟨some 107, _, _, _, _, _⟩) (v := (.bool false)) rfl (by kernel_rfl) (by kernel_rfl) (by kernel_rfl) (fun _ _ _ h => h) (Or.inl ⟨by rfl, ?yk40⟩) (Fr.refl _ _) ?rk40
                    case yk40 =>
                      intro wq hSw
                      exact step_ge14 (x := .tmp 103) (y := .tmp 106) rfl rfl rfl (decide_eq_false (by have := HY2.out; omega))
                    try simp only [Act.put, List.setIfInBounds_toArray, List.set_cons_zero, List.set_cons_succ]
                    refine wpAnyH_take (i := 41) (oi := ⟨some 108, _, _, _, _, _⟩) (v := ?vk41) rfl (by kernel_rfl) (by kernel_rfl) (by kernel_rfl) (fun _ _ _ h => h) (Or.inl ⟨by rfl, ?yk41⟩) (Fr.refl _ _) ?rk41
                    case yk41 =>
                      intro wq hSw
                      (try dsimp only at hSw)
                      first | (go_simp; done) | (go_simp; with_reducible rfl)
                    try simp only [Act.put, List.setIfInBounds_toArray, List.set_cons_zero, List.set_cons_succ]
                    refine wpAnyH_done (by kernel_rfl) ?_ _
                    go_wp2_with fail
                    go_roundw
                    case rel => exact ⟨k + 1, by omega, by go_num, HB.out.drew⟩
                    case measure => simp [intOf]; omega
                  · obtain rfl : k = m := by omega
                    have HRO := Lib.hid ro
                    have HSK := Lib.hid hsk
                    have HJK := Lib.hid JK
                    clear ro hsk JK hb
                    go_wp2_with (at_builtin; refine wpList_append_ri rfl (.tmp 109) (.tmp 110) rfl rfl HRO.out A2 k c2 (intsOf (placesL p l)) rfl HSK.out ?pb ?pc)
                    case pb => omega
                    intro A3 c3 w3 hr3 hf3 hA3
                    have hlen : lo + k = (out ++ intsOf (placesL p l)).length := by rw [List.length_append, intsOf_length, placesL, List.length_map, HLM.out, ← HLO.out]
                    have JM := Lib.hid (HJK.out.outNew (out' := out ++ intsOf (placesL p l)) (hlen ▸ hr3) hf3 hA3)
                    have HLE := Lib.hid hlen
                    have BM := Lib.hid (BK.out.take JL.out.lw.pl.ok HME.out HND.out)
                    clear hr3 hf3 hA3 hlen
                    go_wp2_with fail
                    go_meet
                    case rel => exact ⟨takeAll p (intsOf (placesL p l)), A3, c3, out ++ intsOf (placesL p l), lA, lc, lim, by rw [HLE.out], by rw [HLL.out], JM.out, BM.out⟩
        · by_cases h4 : kind = 4
          · subst h4
            as_aux_lemma =>
              have c2 := C2.out
              have hgv := give_any S P p LA q Lc L wl JL.out.lw.pl (HLS.out.below JL.out.lw.bel (Nat.le_refl _)) HQ.out.symm HLZ.out HLB.out
              go_wp2_with fail
              refine hgv.mono ?_; clear hgv c2; rintro e w3 ⟨rfl, hp, hf⟩
              have c2 := hf.cell_some C2.out XS.out
              have J3 := Lib.hid (JL.out.turn hp rfl rfl hf)
              clear hp hf
              have ro := J3.out.ro
              rw [← HLO.out] at ro
              have hwo := without14_any oA lo oc out LA q Lc L w3 ro.sl HLO.out.symm (by omega) (HLS.out.below J3.out.lw.bel (Nat.le_refl _)) HQ.out.symm
              clear ro
              go_wp2_with fail
              refine hwo.mono ?_; clear hwo; rintro e w4 ⟨A4, c4, rfl, hr, hb, hA⟩
              have J4 := Lib.hid (J3.out.outFresh hr hb hA)
              clear hr hb hA
              go_wp2_with fail
              go_meet
              case rel => exact ⟨giveAll p L, A4, c4, withoutL out L, lA, lc, lim, rfl, by rw [HLL.out], J4.out, BK.out.give L⟩
          · by_cases h5 : kind = 5
            · subst h5
              as_aux_lemma =>
                have c2 := C2.out
                have hgv := later_any S P p LA q Lc L wl JL.out.lw.pl (HLS.out.below JL.out.lw.bel (Nat.le_refl _)) HQ.out.symm HLZ.out HLB.out
                go_wp2_with fail
                refine hgv.mono ?_; clear hgv c2; rintro e w2 ⟨rfl, hp, hf⟩
                have D2 := Lib.hid (hf.cell_some C2.out XS.out)
                have J2 := Lib.hid (JL.out.turn hp rfl rfl hf)
                clear hp hf
                go_wp2_with fail
                go_loopw [9, 15] (fun lv kv wx => ∃ (k : Nat) (A3 : Option Addr) (c3 : Nat) (lm : List Int), lv = .slice A3 lm.length c3 ∧ kv = .int .i64 (k : Int) ∧ k ≤ q ∧ lm.length ≤ ll + k ∧ laterL out lm (L.drop k) = laterL out lim L ∧ Mem14 W wx S P a n (laterAll p L) oA oc out A3 c3 lm ∧ wx.cell? ⟨wo.heap.size, 2, none⟩ = some (.slice LA q Lc) ∧ ¬ Bk A3 wo.heap.size) (fun _ kv _ => q - (intOf kv).toNat)
                case atStart => exact ⟨0, lA, lc, lim, by rw [HLL.out], rfl, by omega, by rw [HLL.out]; omega, rfl, J2.out, D2.out, XL.out⟩
                case round =>
                  obtain ⟨k, A3, c3, lm, rfl, rfl, hk, hlm, hla, hJ, c2, hbk⟩ := hrel
                  obtain ⟨wk, rfl⟩ : ∃ x, x = wr := ⟨_, rfl⟩
                  have JK := Lib.hid hJ
                  have HLA := Lib.hid hla
                  have HBK := Lib.hid hbk
                  have HC2 := Lib.hid c2
                  obtain ⟨u, hu⟩ : ∃ u, u = lm.length := ⟨_, rfl⟩
                  rw [← hu] at hlm ⊢
                  have HU := Lib.hid hu
                  by_cases hkq : k < q
                  · have hki : (k : Int) < (q : Int) := by omega
                    have hkl : k < L.length := by rw [← HQ.out]; exact hkq
                    obtain ⟨bg, og, hLA, hcg⟩ := (HLS.out.below hJ.lw.bel (Nat.le_refl _)).at_ hkq
                    have hcy := hcg k _ (icells_at hkl)
                    have hdr : L.drop k = L.getD k 0 :: L.drop (k + 1) := by
                      rw [List.drop_eq_getElem_cons hkl]
                      simp [hkl]
                    rw [hdr, laterL] at hla
                    obtain ⟨y, hy⟩ : ∃ y, y = L.getD k 0 := ⟨_, rfl⟩
                    rw [← hy] at hcy hla
                    rw [hLA] at c2
                    have ro := hJ.ro
                    have rl := hJ.rl
                    rw [← HLO.out] at ro
                    rw [← hu] at rl
                    have hin1 := in14_any y oA lo oc out wk ro.sl HLO.out.symm
                    have hin2 := in14_any y A3 u c3 lm wk rl.sl hu.symm
                    have HRL := Lib.hid rl
                    have HLA2 := Lib.hid hla
                    have HEQ := Lib.hid hLA
                    clear hdr hcg hy hJ hla hbk hu ro rl hLA
                    by_cases m1 : y ∈ out
                    · rw [decide_eq_true m1] at hin1
                      by_cases m2 : y ∈ lm
                      · rw [decide_eq_true m2] at hin2
                        have hno : ¬ (y ∈ out ∧ y ∉ lm) := fun h => h.2 m2
                        have HLA3 := HLA2.out
                        rw [if_neg hno] at HLA3
                        have HL4 := Lib.hid HLA3
                        clear HLA3 m1 m2 hno
                        go_wp2_with fail
                        refine hin1.mono ?_; clear hin1; rintro e v9 ⟨rfl, hw⟩
                        obtain rfl : wk = v9 := hw.symm
                        go_wp2_with fail
                        refine hin2.mono ?_; clear hin2; rintro e v9 ⟨rfl, hw⟩
                        obtain rfl : wk = v9 := hw.symm
                        go_wp2_with fail
                        go_roundw
                        case rel => exact ⟨k + 1, A3, c3, lm, by rw [HU.out], by go_num, by omega, by rw [← HU.out]; omega, HL4.out, JK.out, HC2.out, HBK.out⟩
                        case measure => simp [intOf]; omega
                      · rw [decide_eq_false m2] at hin2
                        have hno : y ∈ out ∧ y ∉ lm := ⟨m1, m2⟩
                        have HLA3 := HLA2.out
                        rw [if_pos hno] at HLA3
                        have HL4 := Lib.hid HLA3
                        have hbx : Below wk.heap.size wk (wk.alloc (.cells #[.int .i64 y] 3)) := (Below.refl _ _).alloc (Nat.le_refl _) _
                        have HR2 := Lib.hid (HRL.out.later hbx)
                        have JX := Lib.hid (JK.out.later hbx)
                        have CX := Lib.hid (show (wk.alloc (.cells #[.int .i64 y] 3)).cell? ⟨wo.heap.size, 2, none⟩ = some (.slice LA q Lc) from (hbx.cell (World.block_lt_of_cell? wk _ HC2.out)).trans HC2.out)
                        have HXW := Lib.hid (show wo.heap.size < wk.heap.size from World.block_lt_of_cell? wk _ HC2.out)
                        have HU4 := Lib.hid hlm
                        clear HLA3 m1 m2 hno hbx
                        go_wp2_with fail
                        refine hin1.mono ?_; clear hin1; rintro e v9 ⟨rfl, hw⟩
                        obtain rfl : wk = v9 := hw.symm
                        go_wp2_with fail
                        refine hin2.mono ?_; clear hin2; rintro e v9 ⟨rfl, hw⟩
                        obtain rfl : wk = v9 := hw.symm
                        go_wp2_with (at_builtin; refine wpList_append_ri rfl (.tmp 152) (.tmp 158) rfl rfl HR2.out (some ⟨wk.heap.size, 0, none⟩) 1 1 [y] rfl (Sl.made wk #[.int .i64 y] 3 1 1 rfl (by decide)) ?pd ?pe)
                        case pd => omega
                        intro A4 c4 w4 hr4 hf4 hA4
                        have hlen : u + 1 = (lm ++ [y]).length := by rw [List.length_append, List.length_singleton, ← HU.out]
                        have J4 := Lib.hid (JX.out.limNew (lim' := lm ++ [y]) (hlen ▸ hr4) hf4 (hA4.imp id fun e => e.trans (by simp)))
                        have C4 := Lib.hid (hf4.cell_some CX.out HBK.out)
                        have B4 := Lib.hid (show ¬ Bk A4 wo.heap.size from by
                          rcases hA4 with rfl | rfl
                          · exact HBK.out
                          · intro h
                            have e := h.new
                            have := HXW.out
                            omega)
                        have HLE := Lib.hid hlen
                        clear hr4 hf4 hA4 hlen
                        go_wp2_with fail
                        go_roundw
                        case rel => exact ⟨k + 1, A4, c4, lm ++ [y], by rw [← HLE.out], by go_num, by omega, by rw [← HLE.out]; omega, HL4.out, J4.out, C4.out, B4.out⟩
                        case measure => simp [intOf]; omega
                    · rw [decide_eq_false m1] at hin1
                      have hno : ¬ (y ∈ out ∧ y ∉ lm) := fun h => m1 h.1
                      have HLA3 := HLA2.out
                      rw [if_neg hno] at HLA3
                      have HL4 := Lib.hid HLA3
                      clear HLA3 m1 hno hin2
                      go_wp2_with fail
                      refine hin1.mono ?_; clear hin1; rintro e v9 ⟨rfl, hw⟩
                      obtain rfl : wk = v9 := hw.symm
                      go_wp2_with fail
                      go_roundw
                      case rel => exact ⟨k + 1, A3, c3, lm, by rw [HU.out], by go_num, by omega, by rw [← HU.out]; omega, HL4.out, JK.out, HC2.out, HBK.out⟩
                      case measure => simp [intOf]; omega
                  · obtain rfl : k = q := by omega
                    have e0 : lm = laterL out lim L := by
                      rw [List.drop_of_length_le (by rw [← HQ.out]; exact Nat.le_refl _), laterL] at hla
                      exact hla
                    obtain ⟨w3, rfl⟩ : ∃ x, x = wk := ⟨_, rfl⟩
                    have J3 := JK
                    have E0 := Lib.hid e0
                    clear e0 hJ hla hbk hu
                    have ro := J3.out.ro
                    rw [← HLO.out] at ro
                    have hwo := without14_any oA lo oc out LA k Lc L w3 ro.sl HLO.out.symm (by omega) (HLS.out.below J3.out.lw.bel (Nat.le_refl _)) HQ.out.symm
                    clear ro
                    go_wp2_with fail
                    refine hwo.mono ?_; clear hwo; rintro e w4 ⟨A4, c4, rfl, hr, hb, hA⟩
                    have J4 := Lib.hid (J3.out.outFresh hr hb hA)
                    clear hr hb hA
                    go_wp2_with fail
                    go_meet
                    case rel => exact ⟨laterAll p L, A4, c4, withoutL out L, A3, c3, lm, rfl, by rw [HU.out], J4.out, by rw [E0.out]; exact BK.out.later JL.out.lw.pl.ok L⟩
            · by_cases h6 : kind = 6
              · subst h6
                as_aux_lemma =>
                  have hst := settle_any S P p wl JL.out.lw.pl (JL.out.lw.tz HN.out)
                  rw [← BK.out.lenL, ← HLL.out] at hst
                  go_wp2_with fail
                  refine hst.mono ?_; clear hst; rintro e w3 ⟨rfl, hp, hf⟩
                  have J3 := Lib.hid (JL.out.turn hp rfl rfl hf)
                  clear hp hf
                  go_wp2_with fail
                  go_meet
                  case rel => exact ⟨settledP p, oA, oc, out, none, 0, [], by rw [HLO.out], rfl, J3.out.limNil, BK.out.settle⟩
              · as_aux_lemma =>
                  have g0 : (kind == 0) = false := by simp; omega
                  have g1 : (kind == 1) = false := by simp; omega
                  have g2 : (kind == 2) = false := by simp; omega
                  have g4 : (kind == 4) = false := by simp; omega
                  have g5 : (kind == 5) = false := by simp; omega
                  have g6 : (kind == 6) = false := by simp; omega
                  clear hk h4 h5 h6
                  go_wp2_with fail
                  go_meet
                  case rel => exact ⟨p, oA, oc, out, lA, lc, lim, by rw [HLO.out], by rw [HLL.out], JL.out, BK.out⟩
      case rest =>
        as_aux_lemma =>
          obtain ⟨p', oA', oc', out', lA', lc', lim', hov, hlv, hJ, hB⟩ := hcut
          subst hov hlv
          have hfree := free_any S P p' wc hJ.lw.pl (hJ.lw.tz HN.out)
          have hlimb := fun w (hb : Below wc.heap.size wc w) => limbo_any S P p' w (hJ.lw.pl.later hb) ((hJ.lw.later hb).tz HN.out)
          have htak := fun w (hb : Below wc.heap.size wc w) => taken_any S P p' w (hJ.lw.pl.later hb) ((hJ.lw.later hb).tz HN.out)
          unfold RetPlaces at htak
          have hall := hB.all hJ.lw.pl.ok
          rw [← hB.lenL] at hlimb
          rw [← hB.lenO] at htak
          have hsm := hJ.few hB
          obtain ⟨lo', hlo'⟩ : ∃ q, q = out'.length := ⟨_, rfl⟩
          obtain ⟨ll', hll'⟩ : ∃ q, q = lim'.length := ⟨_, rfl⟩
          rw [← hlo', ← hll'] at hall hsm
          rw [← hll'] at hlimb
          rw [← hlo'] at htak
          rw [← hlo', ← hll']
          have hval : (p'.n : Int) - (cntL p'.n p'.f : Int) = (n : Int) - (lo' : Int) - (ll' : Int) := by rw [hall, hJ.pn]; omega
          rw [hval] at hfree
          obtain ⟨hs1, hs2⟩ := hsm
          have JR := Lib.hid hJ
          have BR := Lib.hid hB
          have HLI := Lib.hid hlimb
          have HTA := Lib.hid htak
          have H1' := Lib.hid hlo'
          have H2' := Lib.hid hll'
          clear hJ hB hall hval hlimb htak hlo' hll' JL BK
          go_wp2_with fail
          refine hfree.mono ?_; clear hfree; rintro e w5 ⟨rfl, hb5⟩
          have hlimb := HLI.out w5 hb5
          have HB5 := Lib.hid hb5
          clear hb5
          go_wp2_with fail
          refine hlimb.mono ?_; clear hlimb; rintro e w6 ⟨rfl, hb6⟩
          have hb6' := HB5.out.trans (hb6.mono HB5.out.size)
          have htak := HTA.out w6 hb6'
          have HB6 := Lib.hid hb6'
          clear hb6 hb6'
          go_wp2_with fail
          refine htak.mono ?_; clear htak; rintro e w7 ⟨b7, rfl, hr7, hb7, hbb7⟩
          have HB7 := Lib.hid (HB6.out.trans (hb7.mono HB6.out.size))
          clear hr7 hb7 hbb7
          go_wp2_with fail
          go_roundg (G - 1)
          case measure => omega
          case rel => exact ⟨i + 1, p', oA', oc', out', lA', lc', lim', by rw [H1'.out], by rw [H2'.out], by go_num, by omega, by omega, JR.out.later HB7.out, BR.out⟩
    · as_aux_lemma =>
        obtain rfl : i = N := by omega
        have hg := HL.out wo J.out.lw.bel
        have HBW := Lib.hid J.out.lw.bel
        clear J BK
        go_wp2_with fail
        refine hg.mono ?_; clear hg; rintro e w2 ⟨rfl, hb⟩
        have HB2 := Lib.hid (HBW.out.trans (hb.mono HBW.out.size))
        clear hb
        go_wp2_with fail
        go_ret
        exact ⟨rfl, HB2.out⟩
end Go.Proofs.YtgkdpljlgdlekaaDoor
