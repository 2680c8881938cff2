/-
  The contracts of the document's Scale (in new memory), Sum and Spread of layer 7. No condition but bounds. (Written by gen_dnb.py.)
-/
import Derived.Test.YtjacdabhlnfbkaaDna
namespace Go.Proofs.Ytjacdabhlnfbkaa
open Go.RowKit Go.Proofs
set_option linter.unusedVariables false

set_option maxRecDepth 20000 in
set_option maxHeartbeats 800000 in
theorem rscale_mine (c : UInt8) (A : Option Addr) (m cq : Nat) (r : List UInt8) (w : World) (hr : Sl w 1 A m cq (cells r)) (h47 : m ≤ 140737488355327) :
    Calls Try.prog 30 #[.int .u8 (c.toNat : Int), .slice A m cq] w (RetMine w.heap.size w (r.map (gm c))) := by
  have hrl := hr.len
  rw [cells_length, Nat.mul_one] at hrl
  have Hr := Lib.hid hr; clear hr
  have Hrl := Lib.hid hrl; clear hrl
  go_enter Try.func30, Try.ntmps30
  go_wp2_with fail
  go_loopw [5, 6] (fun v i wr => ∃ (k : Nat) (A' : Option Addr) (c' : Nat), k ≤ m ∧ i = .int .i64 (k : Int) ∧ v = .slice A' k c' ∧ Grow wr w.heap.size A' k c' ((r.map (gm c)).take k) ∧ Below w.heap.size w wr) (fun _ i _ => m - (intOf i).toNat)
  case atStart => exact ⟨0, none, 0, by omega, rfl, rfl, Grow.nil _ _, Below.refl _ _⟩
  case round =>
    obtain ⟨k, A', c', hk, rfl, rfl, ho, hb⟩ := hrel
    have Ho := Lib.hid ho; clear ho
    by_cases hlt : k < m
    · have hkr : k < r.length := by rw [Hrl.out]; exact hlt
      obtain ⟨b, o, rfl, hc⟩ := (Hr.out.below hb (Nat.le_refl _)).at_ hlt
      have hcell := hc k _ (cells_get r k hkr)
      have Hc := Lib.hid hc; clear hc
      rw [bv] at hcell
      obtain ⟨y, hy⟩ : ∃ y, y = r[k] := ⟨_, rfl⟩
      rw [← hy] at hcell
      have Hy := Lib.hid hy; clear hy
      go_wp2_with fail
      refine (rmul_any c y _).mono ?_; rintro e w' ⟨rfl, rfl⟩
      have hsz := hb.size
      go_wp2_with (at_builtin; refine wpList_append_bm (B := w.heap.size) rfl (.tmp 13) (.tmp 20) rfl rfl (Ho.out.own.alloc _) ?c1 (some ⟨w'.heap.size, 0, none⟩) 1 1 [gm c y] rfl (Sl.one _ _ _ _ rfl) ?c3 ?c4)
      case c1 => simp; omega
      case c3 => omega
      intro A2 c2 w2 ho2 hb2 hr2
      have hG : Grow w2 w.heap.size A2 (k + 1) c2 ((r.map (gm c)).take (k + 1)) := by
        rw [← map_snoc c r k hkr, ← Hy.out]
        exact ⟨by rw [cells_append]; exact ho2, fun h => by rw [cells_append]; exact hr2⟩
      have HG := Lib.hid hG
      have Hb2 := Lib.hid ((hb.alloc hb.size _).trans hb2)
      clear hG ho2 hr2 hb2
      go_wp2_with fail
      go_roundw
      case rel => exact ⟨k + 1, A2, c2, by omega, by go_num, rfl, HG.out, Hb2.out⟩
      case measure => simp [intOf]; omega
    · obtain rfl : k = m := by omega
      go_wp2_with fail
      go_ret
      have hG := Ho.out
      rw [List.take_of_length_le (by rw [List.length_map, Hrl.out]; exact Nat.le_refl _)] at hG
      exact ⟨A', _, c', rfl, hG.own.sl, hb, fun hn => Mine.of_own (hG.row hn) hn⟩

set_option maxRecDepth 20000 in
set_option maxHeartbeats 1600000 in
theorem sum7_any (A : Option Addr) (n c : Nat) (a : List UInt8) (A2 : Option Addr) (n2 c2 : Nat) (b : List UInt8) (w : World) (h : Sl w 1 A n c (cells a)) (h2 : Sl w 1 A2 n2 c2 (cells b)) (hn : n ≤ 1048576) :
    Calls Try.prog 38 #[.slice A n c, .slice A2 n2 c2] w (RetMine w.heap.size w (addL a b)) := by
  have hlim2 := h2.lim
  have hlen := h.len
  have hlen2 := h2.len
  rw [cells_length, Nat.mul_one] at hlen hlen2
  unfold maxLen at hlim2
  have H := Lib.hid h; clear h
  have H2 := Lib.hid h2; clear h2
  have Hlen := Lib.hid hlen; clear hlen
  have Hlen2 := Lib.hid hlen2; clear hlen2
  go_enter Try.func38, Try.ntmps38
  go_wp2_with fail
  go_loopw [5, 6] (fun v i wr => ∃ (j : Nat) (A' : Option Addr) (c' : Nat), j ≤ n ∧ j ≤ n2 ∧ i = .int .i64 (j : Int) ∧ v = .slice A' j c' ∧ Grow wr w.heap.size A' j c' ((addL a b).take j) ∧ Below w.heap.size w wr) (fun _ i _ => n - (intOf i).toNat)
  case atStart => exact ⟨0, none, 0, by omega, by omega, rfl, rfl, Grow.nil _ _, Below.refl _ _⟩
  case round =>
    obtain ⟨j, A', c', hj, hj2, rfl, rfl, ho, hb⟩ := hrel
    have Ho := Lib.hid ho; clear ho
    have Hb := Lib.hid hb
    have hszr := hb.size
    clear hb
    by_cases hgo : j < n ∧ j < n2
    · obtain ⟨hlt, hlt2⟩ := hgo
      obtain ⟨b1, o1, rfl, hc1⟩ := (H.out.below Hb.out (Nat.le_refl _)).at_ hlt
      obtain ⟨b2, o2, rfl, hc2⟩ := (H2.out.below Hb.out (Nat.le_refl _)).at_ hlt2
      have hja : j < a.length := by rw [Hlen.out]; exact hlt
      have hjb : j < b.length := by rw [Hlen2.out]; exact hlt2
      have x1 := hc1 j _ (cells_get a j hja)
      have x2 := hc2 j _ (cells_get b j hjb)
      rw [bv] at x1 x2
      have hnext : (addL a b).take j ++ [a[j] ^^^ b[j]] = (addL a b).take (j + 1) := by
        rw [← List.take_append_getElem (show j < (addL a b).length by rw [addL_length]; omega)]
        simp [addL]
      obtain ⟨u, hu⟩ : ∃ u, u = a[j] := ⟨_, rfl⟩
      obtain ⟨v, hv⟩ : ∃ v, v = b[j] := ⟨_, rfl⟩
      rw [← hu] at x1 hnext
      rw [← hv] at x2 hnext
      have Hnext := Lib.hid hnext; clear hnext hu hv hc1 hc2
      have hji : (j : Int) < (n : Int) := by omega
      have hji2 : (j : Int) < (n2 : Int) := by omega
      have hxor := xor_b u v
      obtain ⟨z, hz⟩ : ∃ z, z = u ^^^ v := ⟨_, rfl⟩
      rw [← hz] at hxor Hnext
      clear hz
      have hlb1 : b1 < w.heap.size := H.out.lt (by decide) (by omega) rfl
      have hlb2 : b2 < w.heap.size := H2.out.lt (by decide) (by omega) rfl
      have X1 := Lib.hid x1; have X2 := Lib.hid x2; clear x1 x2
      go_upto_region 5 with (fail)
      have Ho0 := Lib.hid (Ho.out.below (Below.drew (Below.refl _ _)))
      refine wp_region_held_drew (S := fun w' => Fr (fun k => w.heap.size ≤ k) wr w') (by kernel_rfl) (Fr.drew (Fr.refl _ _)) (fun hHeld => ?_)
      clear hHeld
      have hHeld : Fr (fun k => w.heap.size ≤ k) wr wr.drew := Fr.drew (Fr.refl _ _)
      have hz_0 : wr.heap.size ≤ wr.drew.heap.size := Nat.le_refl _
      obtain ⟨v_1, hw⟩ : ∃ v_1, v_1 = wr.drew := ⟨_, rfl⟩
      rw [← hw] at hHeld hz_0 Ho0 ⊢
      clear hw
      refine wpAnyH_take (i := 0) (oi := ⟨some 19, _, _, _, _, _⟩) (v := ?vg0_2) rfl (by kernel_rfl) (by kernel_rfl) (by kernel_rfl) (fun _ _ _ h => h) (Or.inl ⟨by rfl, ?yg0_2⟩) hHeld ?rg0_2
      case yg0_2 =>
        intro wq hSw
        (try dsimp only at hSw)
        first | (go_simp; done) | (go_simp; with_reducible rfl)
      try simp only [Act.put, List.setIfInBounds_toArray, List.set_cons_zero, List.set_cons_succ]
      refine wpAnyH_take (i := 1) (oi := ⟨some 20, _, _, _, _, _⟩) (v := ?vg1_3) rfl (by kernel_rfl) (by kernel_rfl) (by kernel_rfl) (fun _ _ _ h => h) (Or.inl ⟨by rfl, ?yg1_3⟩) hHeld ?rg1_3
      case yg1_3 =>
        intro wq hSw
        (try dsimp only at hSw)
        first | (go_simp; done) | (go_simp; with_reducible rfl)
      try simp only [Act.put, List.setIfInBounds_toArray, List.set_cons_zero, List.set_cons_succ]
      refine wpAnyH_take (i := 2) (oi := ⟨some 21, _, _, _, _, _⟩) (v := ?vg2_4) rfl (by kernel_rfl) (by kernel_rfl) (by kernel_rfl) (fun _ _ _ h => h) (Or.inl ⟨by rfl, ?yg2_4⟩) hHeld ?rg2_4
      case yg2_4 =>
        intro wq hSw
        (try dsimp only at hSw)
        first | (go_simp; done) | (go_simp; with_reducible rfl)
      try simp only [Act.put, List.setIfInBounds_toArray, List.set_cons_zero, List.set_cons_succ]
      refine wpAnyH_take (i := 3) (oi := ⟨some 22, _, _, _, _, _⟩) (v := ?vg3_5) rfl (by kernel_rfl) (by kernel_rfl) (by kernel_rfl) (fun _ _ _ h => h) (Or.inl ⟨by rfl, ?yg3_5⟩) hHeld ?rg3_5
      case yg3_5 =>
        intro wq hSw
        (try dsimp only at hSw)
        first | (go_simp; done) | (go_simp; with_reducible rfl)
      try simp only [Act.put, List.setIfInBounds_toArray, List.set_cons_zero, List.set_cons_succ]
      refine wpAnyH_take (i := 4) (oi := ⟨some 23, _, _, _, _, _⟩) (v := ?vg4_6) rfl (by kernel_rfl) (by kernel_rfl) (by kernel_rfl) (fun _ _ _ h => h) (Or.inl ⟨by rfl, ?yg4_6⟩) hHeld ?rg4_6
      case yg4_6 =>
        intro wq hSw
        (try dsimp only at hSw)
        have q0 := hSw.cell_some X1.out (by show ¬ w.heap.size ≤ b1; omega)
        first | (go_simp; done) | (go_simp; with_reducible rfl)
      try simp only [Act.put, List.setIfInBounds_toArray, List.set_cons_zero, List.set_cons_succ]
      refine wpAnyH_take (i := 5) (oi := ⟨some 24, _, _, _, _, _⟩) (v := ?vg5_7) rfl (by kernel_rfl) (by kernel_rfl) (by kernel_rfl) (fun _ _ _ h => h) (Or.inl ⟨by rfl, ?yg5_7⟩) hHeld ?rg5_7
      case yg5_7 =>
        intro wq hSw
        (try dsimp only at hSw)
        first | (go_simp; done) | (go_simp; with_reducible rfl)
      try simp only [Act.put, List.setIfInBounds_toArray, List.set_cons_zero, List.set_cons_succ]
      refine wpAnyH_take (i := 6) (oi := ⟨some 25, _, _, _, _, _⟩) (v := ?vg6_8) rfl (by kernel_rfl) (by kernel_rfl) (by kernel_rfl) (fun _ _ _ h => h) (Or.inl ⟨by rfl, ?yg6_8⟩) hHeld ?rg6_8
      case yg6_8 =>
        intro wq hSw
        (try dsimp only at hSw)
        first | (go_simp; done) | (go_simp; with_reducible rfl)
      try simp only [Act.put, List.setIfInBounds_toArray, List.set_cons_zero, List.set_cons_succ]
      refine wpAnyH_take (i := 7) (oi := ⟨some 26, _, _, _, _, _⟩) (v := ?vg7_9) rfl (by kernel_rfl) (by kernel_rfl) (by kernel_rfl) (fun _ _ _ h => h) (Or.inl ⟨by rfl, ?yg7_9⟩) hHeld ?rg7_9
      case yg7_9 =>
        intro wq hSw
        (try dsimp only at hSw)
        first | (go_simp; done) | (go_simp; with_reducible rfl)
      try simp only [Act.put, List.setIfInBounds_toArray, List.set_cons_zero, List.set_cons_succ]
      refine wpAnyH_take (i := 8) (oi := ⟨some 27, _, _, _, _, _⟩) (v := ?vg8_10) rfl (by kernel_rfl) (by kernel_rfl) (by kernel_rfl) (fun _ _ _ h => h) (Or.inl ⟨by rfl, ?yg8_10⟩) hHeld ?rg8_10
      case yg8_10 =>
        intro wq hSw
        (try dsimp only at hSw)
        have q0 := hSw.cell_some X2.out (by show ¬ w.heap.size ≤ b2; omega)
        first | (go_simp; done) | (go_simp; with_reducible rfl)
      try simp only [Act.put, List.setIfInBounds_toArray, List.set_cons_zero, List.set_cons_succ]
      refine wpAnyH_take (i := 9) (oi := ⟨some 28, _, _, _, _, _⟩) (v := ?vg9_11) rfl (by kernel_rfl) (by kernel_rfl) (by kernel_rfl) (fun _ _ _ h => h) (Or.inl ⟨by rfl, ?yg9_11⟩) hHeld ?rg9_11
      case yg9_11 =>
        intro wq hSw
        (try dsimp only at hSw)
        first | (go_simp; done) | (go_simp; with_reducible rfl)
      try simp only [Act.put, List.setIfInBounds_toArray, List.set_cons_zero, List.set_cons_succ]
      refine wpAnyH_ready (rs := [10]) (by kernel_rfl) (by simp) ?_
      refine AllReadyH.cons (o := ⟨some 29, _, _, _, _, _⟩) rfl (fun K hK => ?_) (AllReadyH.nil)
      go_simp
      have hx := Sl.one v_1 5 z (z.toNat : Int) rfl
      have hbB : Below v_1.heap.size v_1 (v_1.alloc (.cells #[.int .u8 (z.toNat : Int)] 5)) := (Below.refl _ _).alloc (Nat.le_refl _) _
      have hfN : Fr (fun k => w.heap.size ≤ k) v_1 (v_1.alloc (.cells #[.int .u8 (z.toNat : Int)] 5)) := Fr.of_below hbB
      have HGr6 := Lib.hid (Ho0.out.below hbB)
      clear hbB
      obtain ⟨xb, hxb⟩ : ∃ xb, xb = v_1.heap.size := ⟨_, rfl⟩
      obtain ⟨v_12, hw⟩ : ∃ x, x = v_1.alloc (.cells #[.int .u8 (z.toNat : Int)] 5) := ⟨_, rfl⟩
      rw [← hw] at hfN hx HGr6 ⊢
      rw [← hxb] at hx ⊢
      clear hw hxb
      have HX := Lib.hid hx; clear hx
      have hHeld := hHeld.trans hfN
      have hz_13 := hfN.size
      refine hK.out _ _ hHeld (fun _ => ?_)
      clear hK K hfN
      try simp only [Act.put, List.setIfInBounds_toArray, List.set_cons_zero, List.set_cons_succ]
      refine wpAnyH_ready (rs := [11]) (by kernel_rfl) (by simp) ?_
      refine AllReadyH.cons (o := ⟨some 30, _, _, _, _, _⟩) rfl (fun K hK => ?_) (AllReadyH.nil)
      have hszw := hHeld.size
      refine step_append_b (B := w.heap.size) rfl (.tmp 19) (.tmp 29) rfl rfl HGr6.out.own (by omega) (some ⟨xb, 0, none⟩) 1 1 [z] rfl HX.out (by omega) ?_
      intro A3 c3 v_14 ho3 hb3 hrow3
      rw [← cells_append, Hnext.out] at ho3 hrow3
      have hfN : Fr (fun k => w.heap.size ≤ k) v_12 v_14 := Fr.of_belowAt hb3 (fun k hk => hk)
      have HG3 := Lib.hid (show Grow v_14 w.heap.size A3 (j + 1) c3 ((addL a b).take (j + 1)) from ⟨ho3, fun _ => hrow3 (by omega)⟩)
      clear ho3 hrow3 hb3 HX
      have hHeld := hHeld.trans hfN
      have hz_15 := hfN.size
      refine hK.out _ _ hHeld (fun _ => ?_)
      clear hK K hfN
      try simp only [Act.put, List.setIfInBounds_toArray, List.set_cons_zero, List.set_cons_succ]
      refine wpAnyH_take (i := 12) (oi := ⟨some 5, _, _, _, _, _⟩) (v := ?vg12_16) rfl (by kernel_rfl) (by kernel_rfl) (by kernel_rfl) (fun _ _ _ h => h) (Or.inl ⟨by rfl, ?yg12_16⟩) hHeld ?rg12_16
      case yg12_16 =>
        intro wq hSw
        (try dsimp only at hSw)
        first | (go_simp; done) | (go_simp; with_reducible rfl)
      try simp only [Act.put, List.setIfInBounds_toArray, List.set_cons_zero, List.set_cons_succ]
      refine wpAnyH_done (by kernel_rfl) ?_ _
      have Hb2 := Lib.hid (Hb.out.trans (hHeld.below hszr (fun k hk => hk)))
      clear hHeld
      go_wp2_with fail
      go_roundw
      case rel => exact ⟨j + 1, A3, c3, by omega, by omega, by go_num, rfl, HG3.out, Hb2.out⟩
      case measure => simp [intOf]; omega
    · have hfull : (addL a b).take j = addL a b := List.take_of_length_le (by rw [addL_length, Hlen.out, Hlen2.out]; omega)
      have hO := Ho.out
      rw [hfull] at hO
      have HO := Lib.hid hO; clear hO hfull
      by_cases hlt : j < n
      · have hge : ¬ ((j : Int) < (n2 : Int)) := by omega
        clear hgo
        go_wp2_with fail
        go_ret
        exact ⟨A', _, c', rfl, HO.out.own.sl, Hb.out, fun hn => Mine.of_own (HO.out.row hn) hn⟩
      · have hge : ¬ ((j : Int) < (n : Int)) := by omega
        clear hgo
        go_wp2_with fail
        go_ret
        exact ⟨A', _, c', rfl, HO.out.own.sl, Hb.out, fun hn => Mine.of_own (HO.out.row hn) hn⟩
set_option maxRecDepth 20000 in
set_option maxHeartbeats 800000 in
theorem rspread_no (k m : Nat) (j : Int) (A : Option Addr) (L c : Nat) (w : World) (hj : ¬ (0 ≤ j ∧ j < (k : Int))) :
    Calls Try.prog 13 #[.int .i64 (k : Int), .int .i64 (m : Int), .int .i64 j, .slice A L c] w fun e w' => e = .returned (.tuple #[.slice none 0 0, .int .i64 2]) ∧ w' = w := by
  by_cases h0 : j < 0
  · clear hj
    go_enter Try.func13, Try.ntmps13
    go_wp2_with fail
    go_ret2
    exact ⟨rfl, rfl⟩
  · have hge : (k : Int) ≤ j := by omega
    clear hj
    go_enter Try.func13, Try.ntmps13
    go_wp2_with fail
    go_ret2
    exact ⟨rfl, rfl⟩

set_option maxRecDepth 20000 in
set_option maxHeartbeats 1600000 in
theorem rspread_yes (k m j : Nat) (A : Option Addr) (L c : Nat) (ch : List UInt8) (w : World) (hj : j < k) (h3 : k + m ≤ 255) (hs : Sl w 1 A L c (cells ch)) (hL : L ≤ 1048576) :
    Calls Try.prog 13 #[.int .i64 (k : Int), .int .i64 (m : Int), .int .i64 (j : Int), .slice A L c] w fun e w' =>
      (∃ A' c', e = .returned (.tuple #[.slice A' (k + m) c', .int .i64 0]) ∧ Gr w' A' (k + m) c' (spreadL k j ch (k + m))) ∧ Below w.heap.size w w' := by
  have h0 : ¬ ((j : Int) < 0) := by omega
  have h1 : ¬ ((k : Int) ≤ (j : Int)) := by omega
  have Hs := Lib.hid hs
  clear hs
  go_enter Try.func13, Try.ntmps13
  go_wp2_with fail
  go_loopw [10, 11] (fun v i wr => ∃ (x : Nat) (A' : Option Addr) (c' : Nat), x ≤ k + m ∧ i = .int .i64 (x : Int) ∧ v = .slice A' x c' ∧ Gg wr w.heap.size A' x c' (spreadL k j ch x) ∧ Below w.heap.size w wr) (fun _ i _ => k + m - (intOf i).toNat)
  case atStart => exact ⟨0, none, 0, by omega, rfl, rfl, Gg.nil _ _, Below.refl _ _⟩
  case round =>
    obtain ⟨x, A', c', hx, rfl, rfl, hG, hb⟩ := hrel
    have HG := Lib.hid hG; clear hG
    have Hb := Lib.hid hb
    have hszr := hb.size
    clear hb
    by_cases hlt : x < k + m
    · have hlt' : (x : Int) < (k : Int) + (m : Int) := by omega
      have hcl := rscale_mine (facB k x j) A L c ch wr (Hs.out.below Hb.out (Nat.le_refl _)) (by omega)
      go_wp2_with fail
      refine (rfactor_any k x j (by omega) hj (by omega) _).mono ?_; rintro e w2 ⟨rfl, rfl⟩
      go_wp2_with fail
      refine hcl.mono ?_; clear hcl; rintro e w3 ⟨Ac, nc, cc, rfl, hsc, hb3, hmc⟩
      have hnc : nc = (ch.map (gm (facB k x j))).length := by
        have := hsc.len
        rw [cells_length] at this
        omega
      have hoth : Oth A' Ac nc := fun b1 o1 o2 hn e1 e2 => by
        obtain ⟨g', cur, e', hg', _⟩ := hmc hn
        rw [e1] at e'; injection e' with e'; injection e' with e' _
        have := (HG.out.own _ _ e2).2
        omega
      have Hsc := Lib.hid hsc
      have Hoth := Lib.hid hoth
      have Hnc := Lib.hid hnc
      have hsz3 := hb3.size
      have HG3 := Lib.hid (HG.out.later hb3)
      have Hb3 := Lib.hid (Hb.out.trans (hb3.mono hszr))
      clear hsc hmc hoth hnc hb3
      go_wp2_with (at_builtin; refine wpList_append_g1 (B := w.heap.size) rfl (.tmp 26) (.tmp 33) rfl rfl HG3.out ?pa Ac nc cc (ch.map (gm (facB k x j))) Hnc.out Hsc.out Hoth.out rfl ?pb ?pc)
      case pa => omega
      case pb => omega
      intro A4 c4 w4 hG4 hb4 hf4
      rw [spreadL_next] at hG4
      have HG4 := Lib.hid hG4; clear hG4
      have Hb4 := Lib.hid (Hb3.out.trans hb4); clear hb4 hf4
      go_wp2_with fail
      go_roundw
      case rel => exact ⟨x + 1, A4, c4, by omega, by go_num, rfl, HG4.out, Hb4.out⟩
      case measure => simp [intOf]; omega
    · obtain rfl : x = k + m := by omega
      have hge : ¬ (((k + m : Nat) : Int) < (k : Int) + (m : Int)) := by omega
      go_wp2_with fail
      go_ret2
      exact ⟨⟨A', c', rfl, HG.out.gr⟩, Hb.out⟩
end Go.Proofs.Ytjacdabhlnfbkaa
