/-
  Contracts of the document's Same of layer 5, and of the statements' own sum of rows. No condition.
-/
import Derived.Test.YtgnkgogdkplcoaaCba
import Derived.Test.YtgnkgogdkplcoaaGd
namespace Go.Proofs.Ytgnkgogdkplcoaa
open Go.RowKit Go.Proofs
set_option linter.unusedVariables false

set_option maxRecDepth 20000 in
set_option maxHeartbeats 1600000 in
theorem rsame5_any (A : Option Addr) (n c : Nat) (rs : List (List UInt8)) (A2 : Option Addr) (n2 c2 : Nat) (qs : List (List UInt8)) (w : World) (h : Gr w A n c rs) (h2 : Gr w A2 n2 c2 qs) :
    Calls Try.prog 22 #[.slice A n c, .slice A2 n2 c2] w fun e w' => e = .returned (.bool (decide (rs = qs))) ∧ Below w.heap.size w w' := by
  have hlim := h.lim
  have hlim2 := h2.lim
  have hlen := h.len
  have hlen2 := h2.len
  unfold maxLen at hlim hlim2
  have H := Lib.hid h; clear h
  have H2 := Lib.hid h2; clear h2
  have Hlen := Lib.hid hlen; clear hlen
  have Hlen2 := Lib.hid hlen2; clear hlen2
  by_cases hn : n = n2
  · subst hn
    go_enter Try.func22, Try.ntmps22
    go_wp2_with fail
    go_loopw [5] (fun i wr => ∃ j : Nat, j ≤ n ∧ i = .int .i64 (j : Int) ∧ (∀ x, x < j → rs.getD x [] = qs.getD x []) ∧ Below w.heap.size w wr) (fun i _ => n - (intOf i).toNat)
    case atStart => exact ⟨0, by omega, rfl, fun j hj => absurd hj (by omega), Below.refl _ _⟩
    case round =>
      obtain ⟨j, hj, rfl, hall, hb⟩ := hrel
      have Hall := Lib.hid hall; clear hall
      by_cases hlt : j < n
      · obtain ⟨b, o, rfl, hc⟩ := (H.out.later hb).at_ (by omega)
        obtain ⟨A1, c1, hc1, hs1⟩ := hc j _ (H.out.get hlt)
        obtain ⟨b2, o2, rfl, hcc⟩ := (H2.out.later hb).at_ (by omega)
        obtain ⟨A3, c3, hc3, hs3⟩ := hcc j _ (H2.out.get hlt)
        obtain ⟨r, hr⟩ : ∃ r, r = rs.getD j [] := ⟨_, rfl⟩
        obtain ⟨q, hq⟩ : ∃ q, q = qs.getD j [] := ⟨_, rfl⟩
        rw [← hr] at hc1 hs1
        rw [← hq] at hc3 hs3
        have k1 : ∀ u, (convert 29 9 (.slice A1 r.length c1)).run Try.prog (wr.drewN u) = .ok (.string (bstr r)) (wr.drewN u) := fun u => str_of (hs1.drewN u)
        have k3 : ∀ u, (convert 29 9 (.slice A3 q.length c3)).run Try.prog (wr.drewN u) = .ok (.string (bstr q)) (wr.drewN u) := fun u => str_of (hs3.drewN u)
        clear hc hcc hs1 hs3
        have Hr := Lib.hid hr; clear hr
        have Hq := Lib.hid hq; clear hq
        have hji : (j : Int) < (n : Int) := by omega
        by_cases heq : r = q
        · have hz : ((bstr r).toList == (bstr q).toList) = true := by rw [bstr_toList, bstr_toList]; simpa using heq
          have Heq := Lib.hid heq; clear heq
          go_wp2_with fail
          go_quiet (fail)
          go_wp2_with fail
          go_roundw
          case rel => exact ⟨j + 1, by omega, by go_num, fun x hx => by
            by_cases hxj : x = j
            · subst hxj
              rw [← Hr.out, ← Hq.out, Heq.out]
            · exact Hall.out x (by omega), below_drewN hb nq⟩
          case measure => simp [intOf]; omega
        · have hz : ((bstr r).toList == (bstr q).toList) = false := by rw [bstr_toList, bstr_toList]; simpa using heq
          have Heq := Lib.hid heq; clear heq
          go_wp2_with fail
          go_quiet (fail)
          go_wp2_with fail
          go_ret
          have : decide (rs = qs) = false := decide_eq_false fun hh => Heq.out (by rw [Hr.out, Hq.out, hh])
          exact ⟨by rw [this]; rfl, below_drewN hb nq⟩
      · obtain rfl : j = n := by omega
        go_wp2_with fail
        go_ret
        have : decide (rs = qs) = true := decide_eq_true (by
          apply List.ext_getElem
          · rw [Hlen.out, Hlen2.out]
          · intro x h1 h2
            have := Hall.out x (by rw [← Hlen.out]; exact h1)
            simpa [h1, h2] using this)
        exact ⟨by rw [this]; rfl, hb⟩
  · have hz : ((n : Int) != (n2 : Int)) = true := by simp; omega
    have hd : decide (rs = qs) = false := decide_eq_false fun hh => hn (by rw [← Hlen.out, ← Hlen2.out, hh])
    have Hd := Lib.hid hd; clear hd hn
    go_enter Try.func22, Try.ntmps22
    go_wp2_with fail
    go_ret
    exact ⟨by rw [Hd.out]; rfl, Below.refl _ _⟩

/-- Two rows' sum, as far as both go. -/
def addL (a b : List UInt8) : List UInt8 := List.zipWith (· ^^^ ·) a b
theorem addL_length (a b : List UInt8) : (addL a b).length = min a.length b.length := by simp [addL]

set_option maxRecDepth 20000 in
set_option maxHeartbeats 1600000 in
theorem added_any (A : Option Addr) (n c : Nat) (a : List UInt8) (A2 : Option Addr) (n2 c2 : Nat) (b : List UInt8) (w : World) (h : Sl w 1 A n c (cells a)) (h2 : Sl w 1 A2 n2 c2 (cells b)) (hn : n ≤ 1048576) :
    Calls Try.prog 27 #[.slice A n c, .slice A2 n2 c2] w (RetMine w.heap.size w (addL a b)) := by
  have hlim2 := h2.lim
  have hlen := h.len
  have hlen2 := h2.len
  rw [cells_length, Nat.mul_one] at hlen hlen2
  unfold maxLen at hlim2
  have H := Lib.hid h; clear h
  have H2 := Lib.hid h2; clear h2
  have Hlen := Lib.hid hlen; clear hlen
  have Hlen2 := Lib.hid hlen2; clear hlen2
  go_enter Try.func27, Try.ntmps27
  go_wp2_with fail
  go_loopw [5, 6] (fun v i wr => ∃ (j : Nat) (A' : Option Addr) (c' : Nat), j ≤ n ∧ j ≤ n2 ∧ i = .int .i64 (j : Int) ∧ v = .slice A' j c' ∧ Grow wr w.heap.size A' j c' ((addL a b).take j) ∧ Below w.heap.size w wr) (fun _ i _ => n - (intOf i).toNat)
  case atStart => exact ⟨0, none, 0, by omega, by omega, rfl, rfl, Grow.nil _ _, Below.refl _ _⟩
  case round =>
    obtain ⟨j, A', c', hj, hj2, rfl, rfl, ho, hb⟩ := hrel
    have Ho := Lib.hid ho; clear ho
    have Hb := Lib.hid hb
    have hszr := hb.size
    clear hb
    by_cases hgo : j < n ∧ j < n2
    · obtain ⟨hlt, hlt2⟩ := hgo
      obtain ⟨b1, o1, rfl, hc1⟩ := (H.out.below Hb.out (Nat.le_refl _)).at_ hlt
      obtain ⟨b2, o2, rfl, hc2⟩ := (H2.out.below Hb.out (Nat.le_refl _)).at_ hlt2
      have hja : j < a.length := by rw [Hlen.out]; exact hlt
      have hjb : j < b.length := by rw [Hlen2.out]; exact hlt2
      have x1 := hc1 j _ (cells_get a j hja)
      have x2 := hc2 j _ (cells_get b j hjb)
      rw [bv] at x1 x2
      have hnext : (addL a b).take j ++ [a[j] ^^^ b[j]] = (addL a b).take (j + 1) := by
        rw [← List.take_append_getElem (show j < (addL a b).length by rw [addL_length]; omega)]
        simp [addL]
      obtain ⟨u, hu⟩ : ∃ u, u = a[j] := ⟨_, rfl⟩
      obtain ⟨v, hv⟩ : ∃ v, v = b[j] := ⟨_, rfl⟩
      rw [← hu] at x1 hnext
      rw [← hv] at x2 hnext
      have Hnext := Lib.hid hnext; clear hnext hu hv hc1 hc2
      have hji : (j : Int) < (n : Int) := by omega
      have hji2 : (j : Int) < (n2 : Int) := by omega
      have hxor := xor_b u v
      obtain ⟨z, hz⟩ : ∃ z, z = u ^^^ v := ⟨_, rfl⟩
      rw [← hz] at hxor Hnext
      clear hz
      have hlb1 : b1 < w.heap.size := H.out.lt (by decide) (by omega) rfl
      have hlb2 : b2 < w.heap.size := H2.out.lt (by decide) (by omega) rfl
      have X1 := Lib.hid x1; have X2 := Lib.hid x2; clear x1 x2
      go_upto_region 5 with (fail)
      have Ho0 := Lib.hid (Ho.out.below (Below.drew (Below.refl _ _)))
      refine wp_region_held_drew (S := fun w' => Fr (fun k => w.heap.size ≤ k) wr w') (by kernel_rfl) (Fr.drew (Fr.refl _ _)) (fun hHeld => ?_)
      clear hHeld
      have hHeld : Fr (fun k => w.heap.size ≤ k) wr wr.drew := Fr.drew (Fr.refl _ _)
      have hz_0 : wr.heap.size ≤ wr.drew.heap.size := Nat.le_refl _
      obtain ⟨v_1, hw⟩ : ∃ v_1, v_1 = wr.drew := ⟨_, rfl⟩
      rw [← hw] at hHeld hz_0 Ho0 ⊢
      clear hw
      refine wpAnyH_take (i := 0) (oi := ⟨some 19, _, _, _, _, _⟩) (v := ?vg0_2) rfl (by kernel_rfl) (by kernel_rfl) (by kernel_rfl) (fun _ _ _ h => h) (Or.inl ⟨by rfl, ?yg0_2⟩) hHeld ?rg0_2
      case yg0_2 =>
        intro wq hSw
        (try dsimp only at hSw)
        first | (go_simp; done) | (go_simp; with_reducible rfl)
      try simp only [Act.put, List.setIfInBounds_toArray, List.set_cons_zero, List.set_cons_succ]
      refine wpAnyH_take (i := 1) (oi := ⟨some 20, _, _, _, _, _⟩) (v := ?vg1_3) rfl (by kernel_rfl) (by kernel_rfl) (by kernel_rfl) (fun _ _ _ h => h) (Or.inl ⟨by rfl, ?yg1_3⟩) hHeld ?rg1_3
      case yg1_3 =>
        intro wq hSw
        (try dsimp only at hSw)
        first | (go_simp; done) | (go_simp; with_reducible rfl)
      try simp only [Act.put, List.setIfInBounds_toArray, List.set_cons_zero, List.set_cons_succ]
      refine wpAnyH_take (i := 2) (oi := ⟨some 21, _, _, _, _, _⟩) (v := ?vg2_4) rfl (by kernel_rfl) (by kernel_rfl) (by kernel_rfl) (fun _ _ _ h => h) (Or.inl ⟨by rfl, ?yg2_4⟩) hHeld ?rg2_4
      case yg2_4 =>
        intro wq hSw
        (try dsimp only at hSw)
        first | (go_simp; done) | (go_simp; with_reducible rfl)
      try simp only [Act.put, List.setIfInBounds_toArray, List.set_cons_zero, List.set_cons_succ]
      refine wpAnyH_take (i := 3) (oi := ⟨some 22, _, _, _, _, _⟩) (v := ?vg3_5) rfl (by kernel_rfl) (by kernel_rfl) (by kernel_rfl) (fun _ _ _ h => h) (Or.inl ⟨by rfl, ?yg3_5⟩) hHeld ?rg3_5
      case yg3_5 =>
        intro wq hSw
        (try dsimp only at hSw)
        first | (go_simp; done) | (go_simp; with_reducible rfl)
      try simp only [Act.put, List.setIfInBounds_toArray, List.set_cons_zero, List.set_cons_succ]
      refine wpAnyH_take (i := 4) (oi := ⟨some 23, _, _, _, _, _⟩) (v := ?vg4_6) rfl (by kernel_rfl) (by kernel_rfl) (by kernel_rfl) (fun _ _ _ h => h) (Or.inl ⟨by rfl, ?yg4_6⟩) hHeld ?rg4_6
      case yg4_6 =>
        intro wq hSw
        (try dsimp only at hSw)
        have q0 := hSw.cell_some X1.out (by show ¬ w.heap.size ≤ b1; omega)
        first | (go_simp; done) | (go_simp; with_reducible rfl)
      try simp only [Act.put, List.setIfInBounds_toArray, List.set_cons_zero, List.set_cons_succ]
      refine wpAnyH_take (i := 5) (oi := ⟨some 24, _, _, _, _, _⟩) (v := ?vg5_7) rfl (by kernel_rfl) (by kernel_rfl) (by kernel_rfl) (fun _ _ _ h => h) (Or.inl ⟨by rfl, ?yg5_7⟩) hHeld ?rg5_7
      case yg5_7 =>
        intro wq hSw
        (try dsimp only at hSw)
        first | (go_simp; done) | (go_simp; with_reducible rfl)
      try simp only [Act.put, List.setIfInBounds_toArray, List.set_cons_zero, List.set_cons_succ]
      refine wpAnyH_take (i := 6) (oi := ⟨some 25, _, _, _, _, _⟩) (v := ?vg6_8) rfl (by kernel_rfl) (by kernel_rfl) (by kernel_rfl) (fun _ _ _ h => h) (Or.inl ⟨by rfl, ?yg6_8⟩) hHeld ?rg6_8
      case yg6_8 =>
        intro wq hSw
        (try dsimp only at hSw)
        first | (go_simp; done) | (go_simp; with_reducible rfl)
      try simp only [Act.put, List.setIfInBounds_toArray, List.set_cons_zero, List.set_cons_succ]
      refine wpAnyH_take (i := 7) (oi := ⟨some 26, _, _, _, _, _⟩) (v := ?vg7_9) rfl (by kernel_rfl) (by kernel_rfl) (by kernel_rfl) (fun _ _ _ h => h) (Or.inl ⟨by rfl, ?yg7_9⟩) hHeld ?rg7_9
      case yg7_9 =>
        intro wq hSw
        (try dsimp only at hSw)
        first | (go_simp; done) | (go_simp; with_reducible rfl)
      try simp only [Act.put, List.setIfInBounds_toArray, List.set_cons_zero, List.set_cons_succ]
      refine wpAnyH_take (i := 8) (oi := ⟨some 27, _, _, _, _, _⟩) (v := ?vg8_10) rfl (by kernel_rfl) (by kernel_rfl) (by kernel_rfl) (fun _ _ _ h => h) (Or.inl ⟨by rfl, ?yg8_10⟩) hHeld ?rg8_10
      case yg8_10 =>
        intro wq hSw
        (try dsimp only at hSw)
        have q0 := hSw.cell_some X2.out (by show ¬ w.heap.size ≤ b2; omega)
        first | (go_simp; done) | (go_simp; with_reducible rfl)
      try simp only [Act.put, List.setIfInBounds_toArray, List.set_cons_zero, List.set_cons_succ]
      refine wpAnyH_take (i := 9) (oi := ⟨some 28, _, _, _, _, _⟩) (v := ?vg9_11) rfl (by kernel_rfl) (by kernel_rfl) (by kernel_rfl) (fun _ _ _ h => h) (Or.inl ⟨by rfl, ?yg9_11⟩) hHeld ?rg9_11
      case yg9_11 =>
        intro wq hSw
        (try dsimp only at hSw)
        first | (go_simp; done) | (go_simp; with_reducible rfl)
      try simp only [Act.put, List.setIfInBounds_toArray, List.set_cons_zero, List.set_cons_succ]
      refine wpAnyH_ready (rs := [10]) (by kernel_rfl) (by simp) ?_
      refine AllReadyH.cons (o := ⟨some 29, _, _, _, _, _⟩) rfl (fun K hK => ?_) (AllReadyH.nil)
      go_simp
      have hx := Sl.one v_1 5 z (z.toNat : Int) rfl
      have hbB : Below v_1.heap.size v_1 (v_1.alloc (.cells #[.int .u8 (z.toNat : Int)] 5)) := (Below.refl _ _).alloc (Nat.le_refl _) _
      have hfN : Fr (fun k => w.heap.size ≤ k) v_1 (v_1.alloc (.cells #[.int .u8 (z.toNat : Int)] 5)) := Fr.of_below hbB
      have HGr6 := Lib.hid (Ho0.out.below hbB)
      clear hbB
      obtain ⟨xb, hxb⟩ : ∃ xb, xb = v_1.heap.size := ⟨_, rfl⟩
      obtain ⟨v_12, hw⟩ : ∃ x, x = v_1.alloc (.cells #[.int .u8 (z.toNat : Int)] 5) := ⟨_, rfl⟩
      rw [← hw] at hfN hx HGr6 ⊢
      rw [← hxb] at hx ⊢
      clear hw hxb
      have HX := Lib.hid hx; clear hx
      have hHeld := hHeld.trans hfN
      have hz_13 := hfN.size
      refine hK.out _ _ hHeld (fun _ => ?_)
      clear hK K hfN
      try simp only [Act.put, List.setIfInBounds_toArray, List.set_cons_zero, List.set_cons_succ]
      refine wpAnyH_ready (rs := [11]) (by kernel_rfl) (by simp) ?_
      refine AllReadyH.cons (o := ⟨some 30, _, _, _, _, _⟩) rfl (fun K hK => ?_) (AllReadyH.nil)
      have hszw := hHeld.size
      refine step_append_b (B := w.heap.size) rfl (.tmp 19) (.tmp 29) rfl rfl HGr6.out.own (by omega) (some ⟨xb, 0, none⟩) 1 1 [z] rfl HX.out (by omega) ?_
      intro A3 c3 v_14 ho3 hb3 hrow3
      rw [← cells_append, Hnext.out] at ho3 hrow3
      have hfN : Fr (fun k => w.heap.size ≤ k) v_12 v_14 := Fr.of_belowAt hb3 (fun k hk => hk)
      have HG3 := Lib.hid (show Grow v_14 w.heap.size A3 (j + 1) c3 ((addL a b).take (j + 1)) from ⟨ho3, fun _ => hrow3 (by omega)⟩)
      clear ho3 hrow3 hb3 HX
      have hHeld := hHeld.trans hfN
      have hz_15 := hfN.size
      refine hK.out _ _ hHeld (fun _ => ?_)
      clear hK K hfN
      try simp only [Act.put, List.setIfInBounds_toArray, List.set_cons_zero, List.set_cons_succ]
      refine wpAnyH_take (i := 12) (oi := ⟨some 5, _, _, _, _, _⟩) (v := ?vg12_16) rfl (by kernel_rfl) (by kernel_rfl) (by kernel_rfl) (fun _ _ _ h => h) (Or.inl ⟨by rfl, ?yg12_16⟩) hHeld ?rg12_16
      case yg12_16 =>
        intro wq hSw
        (try dsimp only at hSw)
        first | (go_simp; done) | (go_simp; with_reducible rfl)
      try simp only [Act.put, List.setIfInBounds_toArray, List.set_cons_zero, List.set_cons_succ]
      refine wpAnyH_done (by kernel_rfl) ?_ _
      have Hb2 := Lib.hid (Hb.out.trans (hHeld.below hszr (fun k hk => hk)))
      clear hHeld
      go_wp2_with fail
      go_roundw
      case rel => exact ⟨j + 1, A3, c3, by omega, by omega, by go_num, rfl, HG3.out, Hb2.out⟩
      case measure => simp [intOf]; omega
    · have hfull : (addL a b).take j = addL a b := List.take_of_length_le (by rw [addL_length, Hlen.out, Hlen2.out]; omega)
      have hO := Ho.out
      rw [hfull] at hO
      have HO := Lib.hid hO; clear hO hfull
      by_cases hlt : j < n
      · have hge : ¬ ((j : Int) < (n2 : Int)) := by omega
        clear hgo
        go_wp2_with fail
        go_ret
        exact ⟨A', _, c', rfl, HO.out.own.sl, Hb.out, fun hn => Mine.of_own (HO.out.row hn) hn⟩
      · have hge : ¬ ((j : Int) < (n : Int)) := by omega
        clear hgo
        go_wp2_with fail
        go_ret
        exact ⟨A', _, c', rfl, HO.out.own.sl, Hb.out, fun hn => Mine.of_own (HO.out.row hn) hn⟩
end Go.Proofs.Ytgnkgogdkplcoaa
