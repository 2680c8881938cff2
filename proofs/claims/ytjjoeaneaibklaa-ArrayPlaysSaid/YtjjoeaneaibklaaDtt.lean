/-
  Layer 10's alike, over DrvK: arrays that are the same are told to be. (Written by gen_dtt.py.)
-/
import Derived.Test.YtjjoeaneaibklaaDtr
import Derived.Deep.RegionHeld3
namespace Go.Proofs.Ytjjoeaneaibklaa
open Go.RowKit Go.Proofs
set_option linter.unusedVariables false

section
variable {Rep : World → (Nat → Prop) → Nat → Dv → Prop} {w0 w w' : World} {S : Nat → Prop} {A X k : Nat} {x : List Dv}
set_option maxRecDepth 100000
set_option maxHeartbeats 12800000
theorem alike10_no (DK : DrvK Rep) (h : Pa Rep w0 w S A X k x x) (hk : k ≤ 90000) (d at_ : Int) (h1 : -9223372036854775808 ≤ at_) (h2 : at_ < 9223372036854775808) (hd : d < 0 ∨ (x.length : Int) ≤ d) : Calls Try.prog 14 #[.pointer (some ⟨A, 0, none⟩), .pointer (some ⟨X, 0, none⟩), .int .i64 d, .int .i64 at_] w (SaysTrue w) := by
  have HH := Lib.hid h
  obtain ⟨Sa, Sb, ha, hr, hdj, hS⟩ := h.ex
  have HA := Lib.hid ha
  have HR := Lib.hid hr
  have hR1 := arread_any DK ha h.la.1 d at_ h1 h2 (wl_up h.wl (by omega))
  simp only [tellD_no hd] at hR1
  clear ha hr hdj hS h
  go_enter Try.func14, Try.ntmps14
  go_wp2_with fail
  refine hR1.mono ?_; clear hR1; rintro e w2 ⟨A2, n2, c2, rfl, hs2, hb2, _⟩
  have S2 := Lib.hid hs2
  have B2 := Lib.hid hb2
  clear hs2 hb2
  go_wp2_with fail
  have hR2 := rxread_any (Arr.later (layX k) HR.out B2.out) HH.out.lx.1 d at_ h1 h2 (by omega)
  simp only [tellD_no hd] at hR2
  refine hR2.mono ?_; clear hR2; rintro e w4 ⟨A4, n4, c4, rfl, hs4, hb4⟩
  have j1 := str_of (S2.out.below hb4 (Nat.le_refl _))
  have j2 := str_of hs4
  have B4 := Lib.hid (B2.out.trans (hb4.mono B2.out.size))
  clear hs4 hb4
  go_wp2_with fail
  have hH := rxhas_any (Arr.later (layX k) HR.out B4.out) d
  simp only [tellD_no hd] at hH
  refine hH.mono ?_; clear hH; rintro e w5 ⟨rfl, hw5⟩
  obtain rfl : w4 = w5 := hw5.symm
  clear j1 j2
  go_wp2_with fail
  have hD := ardead_any DK (Arr.later DK.lay HA.out B4.out) HH.out.la.1 d
  simp only [tellD_no hd] at hD
  refine hD.mono ?_; clear hD; rintro e w6 ⟨rfl, hb6⟩
  have B6 := Lib.hid (B4.out.trans (hb6.mono B4.out.size))
  clear hb6
  go_wp2_with fail
  have hD := arwaits_any DK (Arr.later DK.lay HA.out B6.out) HH.out.la.1 d
  simp only [tellD_no hd] at hD
  refine hD.mono ?_; clear hD; rintro e w7 ⟨rfl, hb7⟩
  have B7 := Lib.hid (B6.out.trans (hb7.mono B6.out.size))
  clear hb7
  go_wp2_with fail
  have hD := arstored_any DK (Arr.later DK.lay HA.out B7.out) HH.out.la.1 d at_ h1 h2
  simp only [tellD_no hd] at hD
  refine hD.mono ?_; clear hD; rintro e w8 ⟨A8, n8, c8, rfl, hs8, hb8, _⟩
  obtain rfl : n8 = 0 := by have := hs8.len; rw [cells_length] at this; simpa using this.symm
  have B8 := Lib.hid (B7.out.trans (hb8.mono B7.out.size))
  clear hb8 hs8
  go_wp2_with fail
  have hD := arrotten_any DK (Arr.later DK.lay HA.out B8.out) HH.out.la.1 d at_ h1 h2
  simp only [tellD_no hd] at hD
  refine hD.mono ?_; clear hD; rintro e w9 ⟨rfl, hb9⟩
  have B9 := Lib.hid (B8.out.trans (hb9.mono B8.out.size))
  clear hb9
  go_wp2_with fail
  go_ret
  exact ⟨rfl, B9.out⟩
theorem alike10_yes (DK : DrvK Rep) (h : Pa Rep w0 w S A X k x x) (hk : k ≤ 90000) (i : Nat) (at_ : Int) (h1 : -9223372036854775808 ≤ at_) (h2 : at_ < 9223372036854775808) {xi : Dv} (hx : x[i]? = some xi) : Calls Try.prog 14 #[.pointer (some ⟨A, 0, none⟩), .pointer (some ⟨X, 0, none⟩), .int .i64 (i : Int), .int .i64 at_] w (SaysTrue w) := by
  have HH := Lib.hid h
  have HX := Lib.hid hx
  obtain ⟨Sa, Sb, ha, hr, hdj, hS⟩ := h.ex
  have HA := Lib.hid ha
  have HR := Lib.hid hr
  have hR1 := arread_any DK ha h.la.1 (i : Int) at_ h1 h2 (wl_up h.wl (by omega))
  simp only [tellD_yes hx] at hR1
  obtain ⟨l, hl⟩ : ∃ l, l = xi.readL at_ := ⟨_, rfl⟩
  obtain ⟨ex, hex⟩ : ∃ ex, ex = xi.readX at_ := ⟨_, rfl⟩
  rw [← hl, ← hex] at hR1
  have HL := Lib.hid hl
  have HEx := Lib.hid hex
  obtain ⟨AL, c, ds, hxr, hxs⟩ := hr
  obtain ⟨d, hd, hdx⟩ := xs_at hxs hx
  obtain ⟨g, rfl, hg⟩ := hxr.at_ (by have := get_lt hd; omega)
  have c0 := hxr.c0
  have cg := hg i d hd
  unfold Ds.ptr at cg
  obtain ⟨_, AL', cL', ls', AW', cW', ws', hrg⟩ : Rf w d.S d.D k d.x := (hxr.rep i d hd).1
  rw [hdx] at hrg
  have c3 := hrg.c3
  have c2' := hrg.c2
  have hwl : ws'.length = xi.wait.length := by rw [hrg.rel.wait, List.length_map, List.length_map]
  rw [hwl] at c2'
  have hidn := get_lt hd
  obtain ⟨n, hn⟩ : ∃ n, n = ds.length := ⟨_, rfl⟩
  rw [← hn] at c0 hidn
  have hii : (i : Int) < (n : Int) := by omega
  obtain ⟨go, hgo⟩ : ∃ go, go = xi.gone := ⟨_, rfl⟩
  obtain ⟨wl, hwl2⟩ : ∃ wl, wl = xi.wait.length := ⟨_, rfl⟩
  obtain ⟨ro, hro⟩ : ∃ ro, ro = xi.rottenB at_ := ⟨_, rfl⟩
  obtain ⟨sl, hsl⟩ : ∃ sl, sl = xi.storedL at_ := ⟨_, rfl⟩
  rw [← hgo] at c3
  rw [← hwl2] at c2'
  have C0 := Lib.hid c0
  have CG := Lib.hid cg
  have C3 := Lib.hid c3
  have C2 := Lib.hid c2'
  have HRG := Lib.hid hrg
  have HGo := Lib.hid hgo
  have HWl := Lib.hid hwl2
  have HRo := Lib.hid hro
  have HSl := Lib.hid hsl
  clear ha hxr hxs hdj hS h hx hl hex hd hdx hg c0 cg c3 c2' hrg hwl hgo hwl2 hro hsl hn
  go_enter Try.func14, Try.ntmps14
  go_wp2_with fail
  refine hR1.mono ?_; clear hR1; rintro e w2 ⟨A2, n2, c2, rfl, hs2, hb2, _⟩
  have S2 := Lib.hid hs2
  have B2 := Lib.hid hb2
  clear hs2 hb2
  go_wp2_with fail
  have hR2 := rxread_any (Arr.later (layX k) HR.out B2.out) HH.out.lx.1 (i : Int) at_ h1 h2 (by omega)
  simp only [tellD_yes HX.out] at hR2
  rw [← HL.out, ← HEx.out] at hR2
  refine hR2.mono ?_; clear hR2; rintro e w4 ⟨A4, n4, c4, rfl, hs4, hb4⟩
  have j1 := str_of (S2.out.below hb4 (Nat.le_refl _))
  have j2 := str_of hs4
  have B4 := Lib.hid (B2.out.trans (hb4.mono B2.out.size))
  clear hs4 hb4
  go_wp2_with fail
  have hH := rxhas_any (Arr.later (layX k) HR.out B4.out) (i : Int)
  simp only [tellD_yes HX.out] at hH
  refine hH.mono ?_; clear hH; rintro e w5 ⟨rfl, hw5⟩
  obtain rfl : w4 = w5 := hw5.symm
  clear j1 j2
  go_wp2_with fail
  have BW := Lib.hid (show Below w.heap.size w w4.drew from Below.drew B4.out)
  refine wp_region_held_drew (S := fun w' => Fr (fun _ => False) w4.drew w') (by kernel_rfl) (Fr.refl _ _) (fun hHeld => ?_)
  clear hHeld
  refine wpAnyH_take (i := 0) (oi := ⟨some 65, _, _, _, _, _⟩) (v := ?vd0) rfl (by kernel_rfl) (by kernel_rfl) (by kernel_rfl) (fun _ _ _ h => h) (Or.inl ⟨by rfl, ?yd0⟩) (Fr.refl _ _) ?rd0
  case yd0 =>
    intro wq hSw
    (try dsimp only at hSw)
    first | (go_simp; done) | (go_simp; with_reducible rfl)
  try simp only [Act.put, List.setIfInBounds_toArray, List.set_cons_zero, List.set_cons_succ]
  refine wpAnyH_take (i := 1) (oi := ⟨some 66, _, _, _, _, _⟩) (v := ?vd1) rfl (by kernel_rfl) (by kernel_rfl) (by kernel_rfl) (fun _ _ _ h => h) (Or.inl ⟨by rfl, ?yd1⟩) (Fr.refl _ _) ?rd1
  case yd1 =>
    intro wq hSw
    (try dsimp only at hSw)
    first | (go_simp; done) | (go_simp; with_reducible rfl)
  try simp only [Act.put, List.setIfInBounds_toArray, List.set_cons_zero, List.set_cons_succ]
  refine wpAnyH_take (i := 3) (oi := ⟨some 68, _, _, _, _, _⟩) (v := ?vd3) rfl (by kernel_rfl) (by kernel_rfl) (by kernel_rfl) (fun _ _ _ h => h) (Or.inl ⟨by rfl, ?yd3⟩) (Fr.refl _ _) ?rd3
  case yd3 =>
    intro wq hSw
    (try dsimp only at hSw)
    first | (go_simp; done) | (go_simp; with_reducible rfl)
  try simp only [Act.put, List.setIfInBounds_toArray, List.set_cons_zero, List.set_cons_succ]
  refine wpAnyH_take (i := 4) (oi := ⟨some 69, _, _, _, _, _⟩) (v := ?vd4) rfl (by kernel_rfl) (by kernel_rfl) (by kernel_rfl) (fun _ _ _ h => h) (Or.inl ⟨by rfl, ?yd4⟩) (Fr.refl _ _) ?rd4
  case yd4 =>
    intro wq hSw
    (try dsimp only at hSw)
    first | (go_simp; done) | (go_simp; with_reducible rfl)
  try simp only [Act.put, List.setIfInBounds_toArray, List.set_cons_zero, List.set_cons_succ]
  refine wpAnyH_take (i := 5) (oi := ⟨some 70, _, _, _, _, _⟩) (v := ?vd5) rfl (by kernel_rfl) (by kernel_rfl) (by kernel_rfl) (fun _ _ _ h => h) (Or.inl ⟨by rfl, ?yd5⟩) (Fr.refl _ _) ?rd5
  case yd5 =>
    intro wq hSw
    (try dsimp only at hSw)
    first | (go_simp; done) | (go_simp; with_reducible rfl)
  try simp only [Act.put, List.setIfInBounds_toArray, List.set_cons_zero, List.set_cons_succ]
  refine wpAnyH_take (i := 6) (oi := ⟨some 71, _, _, _, _, _⟩) (v := ?vd6) rfl (by kernel_rfl) (by kernel_rfl) (by kernel_rfl) (fun _ _ _ h => h) (Or.inl ⟨by rfl, ?yd6⟩) (Fr.refl _ _) ?rd6
  case yd6 =>
    intro wq hSw
    (try dsimp only at hSw)
    have hq := (((Fr.of_below BW.out : Fr (fun _ => False) _ _)).trans hSw).cell_some C0.out (fun h => h)
    first | (go_simp; done) | (go_simp; with_reducible rfl)
  try simp only [Act.put, List.setIfInBounds_toArray, List.set_cons_zero, List.set_cons_succ]
  refine wpAnyH_take (i := 7) (oi := ⟨some 72, _, _, _, _, _⟩) (v := ?vd7) rfl (by kernel_rfl) (by kernel_rfl) (by kernel_rfl) (fun _ _ _ h => h) (Or.inl ⟨by rfl, ?yd7⟩) (Fr.refl _ _) ?rd7
  case yd7 =>
    intro wq hSw
    (try dsimp only at hSw)
    first | (go_simp; done) | (go_simp; with_reducible rfl)
  try simp only [Act.put, List.setIfInBounds_toArray, List.set_cons_zero, List.set_cons_succ]
  refine wpAnyH_take (i := 8) (oi := ⟨some 73, _, _, _, _, _⟩) (v := ?vd8) rfl (by kernel_rfl) (by kernel_rfl) (by kernel_rfl) (fun _ _ _ h => h) (Or.inl ⟨by rfl, ?yd8⟩) (Fr.refl _ _) ?rd8
  case yd8 =>
    intro wq hSw
    (try dsimp only at hSw)
    first | (go_simp; done) | (go_simp; with_reducible rfl)
  try simp only [Act.put, List.setIfInBounds_toArray, List.set_cons_zero, List.set_cons_succ]
  refine wpAnyH_take (i := 9) (oi := ⟨some 74, _, _, _, _, _⟩) (v := ?vd9) rfl (by kernel_rfl) (by kernel_rfl) (by kernel_rfl) (fun _ _ _ h => h) (Or.inl ⟨by rfl, ?yd9⟩) (Fr.refl _ _) ?rd9
  case yd9 =>
    intro wq hSw
    (try dsimp only at hSw)
    have hq := (((Fr.of_below BW.out : Fr (fun _ => False) _ _)).trans hSw).cell_some CG.out (fun h => h)
    first | (go_simp; done) | (go_simp; with_reducible rfl)
  try simp only [Act.put, List.setIfInBounds_toArray, List.set_cons_zero, List.set_cons_succ]
  refine wpAnyH_take (i := 10) (oi := ⟨some 75, _, _, _, _, _⟩) (v := ?vd10) rfl (by kernel_rfl) (by kernel_rfl) (by kernel_rfl) (fun _ _ _ h => h) (Or.inl ⟨by rfl, ?yd10⟩) (Fr.refl _ _) ?rd10
  case yd10 =>
    intro wq hSw
    (try dsimp only at hSw)
    first | (go_simp; done) | (go_simp; with_reducible rfl)
  try simp only [Act.put, List.setIfInBounds_toArray, List.set_cons_zero, List.set_cons_succ]
  refine wpAnyH_take (i := 11) (oi := ⟨some 76, _, _, _, _, _⟩) (v := ?vd11) rfl (by kernel_rfl) (by kernel_rfl) (by kernel_rfl) (fun _ _ _ h => h) (Or.inl ⟨by rfl, ?yd11⟩) (Fr.refl _ _) ?rd11
  case yd11 =>
    intro wq hSw
    (try dsimp only at hSw)
    first | (go_simp; done) | (go_simp; with_reducible rfl)
  try simp only [Act.put, List.setIfInBounds_toArray, List.set_cons_zero, List.set_cons_succ]
  refine wpAnyH_take (i := 12) (oi := ⟨some 77, _, _, _, _, _⟩) (v := ?vd12) rfl (by kernel_rfl) (by kernel_rfl) (by kernel_rfl) (fun _ _ _ h => h) (Or.inl ⟨by rfl, ?yd12⟩) (Fr.refl _ _) ?rd12
  case yd12 =>
    intro wq hSw
    (try dsimp only at hSw)
    have hq := (((Fr.of_below BW.out : Fr (fun _ => False) _ _)).trans hSw).cell_some C3.out (fun h => h)
    first | (go_simp; done) | (go_simp; with_reducible rfl)
  try simp only [Act.put, List.setIfInBounds_toArray, List.set_cons_zero, List.set_cons_succ]
  refine wpAnyH_ready (rs := [2]) (by kernel_rfl) (by simp) ?_
  refine AllReadyH.cons (o := ⟨some 67, _, _, _, _, _⟩) rfl (fun K hK => ?_) AllReadyH.nil
  go_simp
  have hh := ardead_any DK (Arr.later DK.lay HA.out BW.out) HH.out.la.1 (i : Int)
  simp only [tellD_yes HX.out] at hh
  rw [← HGo.out] at hh
  refine hh.mono ?_; clear hh; rintro e w6 ⟨rfl, hb⟩
  have BW := Lib.hid (BW.out.trans (hb.mono BW.out.size))
  have hfr := Fr.of_below (S := fun _ => False) hb
  clear hb
  go_wp2_with fail
  refine hK.out _ _ hfr (fun hHeld => ?_)
  clear hK K hHeld
  try simp only [Act.put, List.setIfInBounds_toArray, List.set_cons_zero, List.set_cons_succ]
  refine wpAnyH_re (S' := fun w' => Fr (fun _ => False) w6 w') (fun w' h => hfr.trans h) ?_
  clear hfr
  refine wpAnyH_take (i := 13) (oi := ⟨some 78, _, _, _, _, _⟩) (v := ?vd13) rfl (by kernel_rfl) (by kernel_rfl) (by kernel_rfl) (fun _ _ _ h => h) (Or.inl ⟨by rfl, ?yd13⟩) (Fr.refl _ _) ?rd13
  case yd13 =>
    intro wq hSw
    (try dsimp only at hSw)
    first | (go_simp; done) | (go_simp; with_reducible rfl)
  try simp only [Act.put, List.setIfInBounds_toArray, List.set_cons_zero, List.set_cons_succ]
  refine wpAnyH_take (i := 14) (oi := ⟨some 79, _, _, _, _, _⟩) (v := ?vd14) rfl (by kernel_rfl) (by kernel_rfl) (by kernel_rfl) (fun _ _ _ h => h) (Or.inl ⟨by rfl, ?yd14⟩) (Fr.refl _ _) ?rd14
  case yd14 =>
    intro wq hSw
    (try dsimp only at hSw)
    first | (go_simp; done) | (go_simp; with_reducible rfl)
  try simp only [Act.put, List.setIfInBounds_toArray, List.set_cons_zero, List.set_cons_succ]
  refine wpAnyH_take (i := 15) (oi := ⟨some 80, _, _, _, _, _⟩) (v := ?vd15) rfl (by kernel_rfl) (by kernel_rfl) (by kernel_rfl) (fun _ _ _ h => h) (Or.inl ⟨by rfl, ?yd15⟩) (Fr.refl _ _) ?rd15
  case yd15 =>
    intro wq hSw
    (try dsimp only at hSw)
    first | (go_simp; done) | (go_simp; with_reducible rfl)
  try simp only [Act.put, List.setIfInBounds_toArray, List.set_cons_zero, List.set_cons_succ]
  refine wpAnyH_take (i := 16) (oi := ⟨some 81, _, _, _, _, _⟩) (v := ?vd16) rfl (by kernel_rfl) (by kernel_rfl) (by kernel_rfl) (fun _ _ _ h => h) (Or.inl ⟨by rfl, ?yd16⟩) (Fr.refl _ _) ?rd16
  case yd16 =>
    intro wq hSw
    (try dsimp only at hSw)
    first | (go_simp; done) | (go_simp; with_reducible rfl)
  try simp only [Act.put, List.setIfInBounds_toArray, List.set_cons_zero, List.set_cons_succ]
  refine wpAnyH_take (i := 18) (oi := ⟨some 83, _, _, _, _, _⟩) (v := ?vd18) rfl (by kernel_rfl) (by kernel_rfl) (by kernel_rfl) (fun _ _ _ h => h) (Or.inl ⟨by rfl, ?yd18⟩) (Fr.refl _ _) ?rd18
  case yd18 =>
    intro wq hSw
    (try dsimp only at hSw)
    first | (go_simp; done) | (go_simp; with_reducible rfl)
  try simp only [Act.put, List.setIfInBounds_toArray, List.set_cons_zero, List.set_cons_succ]
  refine wpAnyH_take (i := 19) (oi := ⟨some 84, _, _, _, _, _⟩) (v := ?vd19) rfl (by kernel_rfl) (by kernel_rfl) (by kernel_rfl) (fun _ _ _ h => h) (Or.inl ⟨by rfl, ?yd19⟩) (Fr.refl _ _) ?rd19
  case yd19 =>
    intro wq hSw
    (try dsimp only at hSw)
    first | (go_simp; done) | (go_simp; with_reducible rfl)
  try simp only [Act.put, List.setIfInBounds_toArray, List.set_cons_zero, List.set_cons_succ]
  refine wpAnyH_take (i := 20) (oi := ⟨some 85, _, _, _, _, _⟩) (v := ?vd20) rfl (by kernel_rfl) (by kernel_rfl) (by kernel_rfl) (fun _ _ _ h => h) (Or.inl ⟨by rfl, ?yd20⟩) (Fr.refl _ _) ?rd20
  case yd20 =>
    intro wq hSw
    (try dsimp only at hSw)
    first | (go_simp; done) | (go_simp; with_reducible rfl)
  try simp only [Act.put, List.setIfInBounds_toArray, List.set_cons_zero, List.set_cons_succ]
  refine wpAnyH_take (i := 21) (oi := ⟨some 86, _, _, _, _, _⟩) (v := ?vd21) rfl (by kernel_rfl) (by kernel_rfl) (by kernel_rfl) (fun _ _ _ h => h) (Or.inl ⟨by rfl, ?yd21⟩) (Fr.refl _ _) ?rd21
  case yd21 =>
    intro wq hSw
    (try dsimp only at hSw)
    have hq := (((Fr.of_below BW.out : Fr (fun _ => False) _ _)).trans hSw).cell_some C0.out (fun h => h)
    first | (go_simp; done) | (go_simp; with_reducible rfl)
  try simp only [Act.put, List.setIfInBounds_toArray, List.set_cons_zero, List.set_cons_succ]
  refine wpAnyH_take (i := 22) (oi := ⟨some 87, _, _, _, _, _⟩) (v := ?vd22) rfl (by kernel_rfl) (by kernel_rfl) (by kernel_rfl) (fun _ _ _ h => h) (Or.inl ⟨by rfl, ?yd22⟩) (Fr.refl _ _) ?rd22
  case yd22 =>
    intro wq hSw
    (try dsimp only at hSw)
    first | (go_simp; done) | (go_simp; with_reducible rfl)
  try simp only [Act.put, List.setIfInBounds_toArray, List.set_cons_zero, List.set_cons_succ]
  refine wpAnyH_take (i := 23) (oi := ⟨some 88, _, _, _, _, _⟩) (v := ?vd23) rfl (by kernel_rfl) (by kernel_rfl) (by kernel_rfl) (fun _ _ _ h => h) (Or.inl ⟨by rfl, ?yd23⟩) (Fr.refl _ _) ?rd23
  case yd23 =>
    intro wq hSw
    (try dsimp only at hSw)
    first | (go_simp; done) | (go_simp; with_reducible rfl)
  try simp only [Act.put, List.setIfInBounds_toArray, List.set_cons_zero, List.set_cons_succ]
  refine wpAnyH_take (i := 24) (oi := ⟨some 89, _, _, _, _, _⟩) (v := ?vd24) rfl (by kernel_rfl) (by kernel_rfl) (by kernel_rfl) (fun _ _ _ h => h) (Or.inl ⟨by rfl, ?yd24⟩) (Fr.refl _ _) ?rd24
  case yd24 =>
    intro wq hSw
    (try dsimp only at hSw)
    have hq := (((Fr.of_below BW.out : Fr (fun _ => False) _ _)).trans hSw).cell_some CG.out (fun h => h)
    first | (go_simp; done) | (go_simp; with_reducible rfl)
  try simp only [Act.put, List.setIfInBounds_toArray, List.set_cons_zero, List.set_cons_succ]
  refine wpAnyH_take (i := 25) (oi := ⟨some 90, _, _, _, _, _⟩) (v := ?vd25) rfl (by kernel_rfl) (by kernel_rfl) (by kernel_rfl) (fun _ _ _ h => h) (Or.inl ⟨by rfl, ?yd25⟩) (Fr.refl _ _) ?rd25
  case yd25 =>
    intro wq hSw
    (try dsimp only at hSw)
    first | (go_simp; done) | (go_simp; with_reducible rfl)
  try simp only [Act.put, List.setIfInBounds_toArray, List.set_cons_zero, List.set_cons_succ]
  refine wpAnyH_take (i := 26) (oi := ⟨some 91, _, _, _, _, _⟩) (v := ?vd26) rfl (by kernel_rfl) (by kernel_rfl) (by kernel_rfl) (fun _ _ _ h => h) (Or.inl ⟨by rfl, ?yd26⟩) (Fr.refl _ _) ?rd26
  case yd26 =>
    intro wq hSw
    (try dsimp only at hSw)
    first | (go_simp; done) | (go_simp; with_reducible rfl)
  try simp only [Act.put, List.setIfInBounds_toArray, List.set_cons_zero, List.set_cons_succ]
  refine wpAnyH_take (i := 27) (oi := ⟨some 92, _, _, _, _, _⟩) (v := ?vd27) rfl (by kernel_rfl) (by kernel_rfl) (by kernel_rfl) (fun _ _ _ h => h) (Or.inl ⟨by rfl, ?yd27⟩) (Fr.refl _ _) ?rd27
  case yd27 =>
    intro wq hSw
    (try dsimp only at hSw)
    have hq := (((Fr.of_below BW.out : Fr (fun _ => False) _ _)).trans hSw).cell_some C2.out (fun h => h)
    first | (go_simp; done) | (go_simp; with_reducible rfl)
  try simp only [Act.put, List.setIfInBounds_toArray, List.set_cons_zero, List.set_cons_succ]
  refine wpAnyH_take (i := 28) (oi := ⟨some 93, _, _, _, _, _⟩) (v := ?vd28) rfl (by kernel_rfl) (by kernel_rfl) (by kernel_rfl) (fun _ _ _ h => h) (Or.inl ⟨by rfl, ?yd28⟩) (Fr.refl _ _) ?rd28
  case yd28 =>
    intro wq hSw
    (try dsimp only at hSw)
    first | (go_simp; done) | (go_simp; with_reducible rfl)
  try simp only [Act.put, List.setIfInBounds_toArray, List.set_cons_zero, List.set_cons_succ]
  refine wpAnyH_ready (rs := [17]) (by kernel_rfl) (by simp) ?_
  refine AllReadyH.cons (o := ⟨some 82, _, _, _, _, _⟩) rfl (fun K hK => ?_) AllReadyH.nil
  go_simp
  have hh := arwaits_any DK (Arr.later DK.lay HA.out BW.out) HH.out.la.1 (i : Int)
  simp only [tellD_yes HX.out] at hh
  rw [← HWl.out] at hh
  refine hh.mono ?_; clear hh; rintro e w7 ⟨rfl, hb⟩
  have BW := Lib.hid (BW.out.trans (hb.mono BW.out.size))
  have hfr := Fr.of_below (S := fun _ => False) hb
  clear hb
  go_wp2_with fail
  refine hK.out _ _ hfr (fun hHeld => ?_)
  clear hK K hHeld
  try simp only [Act.put, List.setIfInBounds_toArray, List.set_cons_zero, List.set_cons_succ]
  refine wpAnyH_re (S' := fun w' => Fr (fun _ => False) w7 w') (fun w' h => hfr.trans h) ?_
  clear hfr
  refine wpAnyH_take (i := 29) (oi := ⟨some 94, _, _, _, _, _⟩) (v := ?vd29) rfl (by kernel_rfl) (by kernel_rfl) (by kernel_rfl) (fun _ _ _ h => h) (Or.inl ⟨by rfl, ?yd29⟩) (Fr.refl _ _) ?rd29
  case yd29 =>
    intro wq hSw
    (try dsimp only at hSw)
    first | (go_simp; done) | (go_simp; with_reducible rfl)
  try simp only [Act.put, List.setIfInBounds_toArray, List.set_cons_zero, List.set_cons_succ]
  refine wpAnyH_take (i := 30) (oi := ⟨some 95, _, _, _, _, _⟩) (v := ?vd30) rfl (by kernel_rfl) (by kernel_rfl) (by kernel_rfl) (fun _ _ _ h => h) (Or.inl ⟨by rfl, ?yd30⟩) (Fr.refl _ _) ?rd30
  case yd30 =>
    intro wq hSw
    (try dsimp only at hSw)
    first | (go_simp; done) | (go_simp; with_reducible rfl)
  try simp only [Act.put, List.setIfInBounds_toArray, List.set_cons_zero, List.set_cons_succ]
  refine wpAnyH_take (i := 31) (oi := ⟨some 96, _, _, _, _, _⟩) (v := ?vd31) rfl (by kernel_rfl) (by kernel_rfl) (by kernel_rfl) (fun _ _ _ h => h) (Or.inl ⟨by rfl, ?yd31⟩) (Fr.refl _ _) ?rd31
  case yd31 =>
    intro wq hSw
    (try dsimp only at hSw)
    first | (go_simp; done) | (go_simp; with_reducible rfl)
  try simp only [Act.put, List.setIfInBounds_toArray, List.set_cons_zero, List.set_cons_succ]
  refine wpAnyH_take (i := 32) (oi := ⟨some 97, _, _, _, _, _⟩) (v := ?vd32) rfl (by kernel_rfl) (by kernel_rfl) (by kernel_rfl) (fun _ _ _ h => h) (Or.inl ⟨by rfl, ?yd32⟩) (Fr.refl _ _) ?rd32
  case yd32 =>
    intro wq hSw
    (try dsimp only at hSw)
    first | (go_simp; done) | (go_simp; with_reducible rfl)
  try simp only [Act.put, List.setIfInBounds_toArray, List.set_cons_zero, List.set_cons_succ]
  refine wpAnyH_take (i := 33) (oi := ⟨some 98, _, _, _, _, _⟩) (v := ?vd33) rfl (by kernel_rfl) (by kernel_rfl) (by kernel_rfl) (fun _ _ _ h => h) (Or.inl ⟨by rfl, ?yd33⟩) (Fr.refl _ _) ?rd33
  case yd33 =>
    intro wq hSw
    (try dsimp only at hSw)
    first | (go_simp; done) | (go_simp; with_reducible rfl)
  try simp only [Act.put, List.setIfInBounds_toArray, List.set_cons_zero, List.set_cons_succ]
  refine wpAnyH_take (i := 34) (oi := ⟨some 99, _, _, _, _, _⟩) (v := ?vd34) rfl (by kernel_rfl) (by kernel_rfl) (by kernel_rfl) (fun _ _ _ h => h) (Or.inl ⟨by rfl, ?yd34⟩) (Fr.refl _ _) ?rd34
  case yd34 =>
    intro wq hSw
    (try dsimp only at hSw)
    first | (go_simp; done) | (go_simp; with_reducible rfl)
  try simp only [Act.put, List.setIfInBounds_toArray, List.set_cons_zero, List.set_cons_succ]
  refine wpAnyH_take (i := 37) (oi := ⟨some 102, _, _, _, _, _⟩) (v := ?vd37) rfl (by kernel_rfl) (by kernel_rfl) (by kernel_rfl) (fun _ _ _ h => h) (Or.inl ⟨by rfl, ?yd37⟩) (Fr.refl _ _) ?rd37
  case yd37 =>
    intro wq hSw
    (try dsimp only at hSw)
    first | (go_simp; done) | (go_simp; with_reducible rfl)
  try simp only [Act.put, List.setIfInBounds_toArray, List.set_cons_zero, List.set_cons_succ]
  refine wpAnyH_take (i := 38) (oi := ⟨some 103, _, _, _, _, _⟩) (v := ?vd38) rfl (by kernel_rfl) (by kernel_rfl) (by kernel_rfl) (fun _ _ _ h => h) (Or.inl ⟨by rfl, ?yd38⟩) (Fr.refl _ _) ?rd38
  case yd38 =>
    intro wq hSw
    (try dsimp only at hSw)
    first | (go_simp; done) | (go_simp; with_reducible rfl)
  try simp only [Act.put, List.setIfInBounds_toArray, List.set_cons_zero, List.set_cons_succ]
  refine wpAnyH_take (i := 39) (oi := ⟨some 104, _, _, _, _, _⟩) (v := ?vd39) rfl (by kernel_rfl) (by kernel_rfl) (by kernel_rfl) (fun _ _ _ h => h) (Or.inl ⟨by rfl, ?yd39⟩) (Fr.refl _ _) ?rd39
  case yd39 =>
    intro wq hSw
    (try dsimp only at hSw)
    first | (go_simp; done) | (go_simp; with_reducible rfl)
  try simp only [Act.put, List.setIfInBounds_toArray, List.set_cons_zero, List.set_cons_succ]
  refine wpAnyH_take (i := 40) (oi := ⟨some 105, _, _, _, _, _⟩) (v := ?vd40) rfl (by kernel_rfl) (by kernel_rfl) (by kernel_rfl) (fun _ _ _ h => h) (Or.inl ⟨by rfl, ?yd40⟩) (Fr.refl _ _) ?rd40
  case yd40 =>
    intro wq hSw
    (try dsimp only at hSw)
    have hq := (((Fr.of_below BW.out : Fr (fun _ => False) _ _)).trans hSw).cell_some C0.out (fun h => h)
    first | (go_simp; done) | (go_simp; with_reducible rfl)
  try simp only [Act.put, List.setIfInBounds_toArray, List.set_cons_zero, List.set_cons_succ]
  refine wpAnyH_take (i := 41) (oi := ⟨some 106, _, _, _, _, _⟩) (v := ?vd41) rfl (by kernel_rfl) (by kernel_rfl) (by kernel_rfl) (fun _ _ _ h => h) (Or.inl ⟨by rfl, ?yd41⟩) (Fr.refl _ _) ?rd41
  case yd41 =>
    intro wq hSw
    (try dsimp only at hSw)
    first | (go_simp; done) | (go_simp; with_reducible rfl)
  try simp only [Act.put, List.setIfInBounds_toArray, List.set_cons_zero, List.set_cons_succ]
  refine wpAnyH_take (i := 42) (oi := ⟨some 107, _, _, _, _, _⟩) (v := ?vd42) rfl (by kernel_rfl) (by kernel_rfl) (by kernel_rfl) (fun _ _ _ h => h) (Or.inl ⟨by rfl, ?yd42⟩) (Fr.refl _ _) ?rd42
  case yd42 =>
    intro wq hSw
    (try dsimp only at hSw)
    first | (go_simp; done) | (go_simp; with_reducible rfl)
  try simp only [Act.put, List.setIfInBounds_toArray, List.set_cons_zero, List.set_cons_succ]
  refine wpAnyH_take (i := 43) (oi := ⟨some 108, _, _, _, _, _⟩) (v := ?vd43) rfl (by kernel_rfl) (by kernel_rfl) (by kernel_rfl) (fun _ _ _ h => h) (Or.inl ⟨by rfl, ?yd43⟩) (Fr.refl _ _) ?rd43
  case yd43 =>
    intro wq hSw
    (try dsimp only at hSw)
    have hq := (((Fr.of_below BW.out : Fr (fun _ => False) _ _)).trans hSw).cell_some CG.out (fun h => h)
    first | (go_simp; done) | (go_simp; with_reducible rfl)
  try simp only [Act.put, List.setIfInBounds_toArray, List.set_cons_zero, List.set_cons_succ]
  refine wpAnyH_take (i := 44) (oi := ⟨some 109, _, _, _, _, _⟩) (v := ?vd44) rfl (by kernel_rfl) (by kernel_rfl) (by kernel_rfl) (fun _ _ _ h => h) (Or.inl ⟨by rfl, ?yd44⟩) (Fr.refl _ _) ?rd44
  case yd44 =>
    intro wq hSw
    (try dsimp only at hSw)
    first | (go_simp; done) | (go_simp; with_reducible rfl)
  try simp only [Act.put, List.setIfInBounds_toArray, List.set_cons_zero, List.set_cons_succ]
  refine wpAnyH_ready (rs := [35]) (by kernel_rfl) (by simp) ?_
  refine AllReadyH.cons (o := ⟨some 100, _, _, _, _, _⟩) rfl (fun K hK => ?_) AllReadyH.nil
  go_simp
  have hh := arstored_any DK (Arr.later DK.lay HA.out BW.out) HH.out.la.1 (i : Int) at_ h1 h2
  simp only [tellD_yes HX.out] at hh
  rw [← HSl.out] at hh
  refine hh.mono ?_; clear hh; rintro e w8 ⟨A8, n8, c8, rfl, hs, hb, _⟩
  have SA := Lib.hid hs
  clear hs
  have BW := Lib.hid (BW.out.trans (hb.mono BW.out.size))
  have hfr := Fr.of_below (S := fun _ => False) hb
  clear hb
  go_wp2_with fail
  refine hK.out _ _ hfr (fun hHeld => ?_)
  clear hK K hHeld
  try simp only [Act.put, List.setIfInBounds_toArray, List.set_cons_zero, List.set_cons_succ]
  refine wpAnyH_re (S' := fun w' => Fr (fun _ => False) w8 w') (fun w' h => hfr.trans h) ?_
  clear hfr
  refine wpAnyH_take (i := 36) (oi := ⟨some 101, _, _, _, _, _⟩) (v := ?vd36) rfl (by kernel_rfl) (by kernel_rfl) (by kernel_rfl) (fun _ _ _ h => h) (Or.inl ⟨by rfl, ?yd36⟩) (Fr.refl _ _) ?rd36
  case yd36 =>
    intro wq hSw
    (try dsimp only at hSw)
    have kk := str_of (SA.out.fr hSw (fun _ _ _ _ h => h))
    first | (go_simp; done) | (go_simp; with_reducible rfl)
  try simp only [Act.put, List.setIfInBounds_toArray, List.set_cons_zero, List.set_cons_succ]
  refine wpAnyH_ready (rs := [45]) (by kernel_rfl) (by simp) ?_
  refine AllReadyH.cons (o := ⟨some 110, _, _, _, _, _⟩) rfl (fun K hK => ?_) AllReadyH.nil
  go_simp
  have hh := rfstored_any at_ h1 h2 (by omega) (HRG.out.later BW.out)
  unfold RetB9 at hh
  rw [← HSl.out] at hh
  refine hh.mono ?_; clear hh; rintro e w9 ⟨A9, n9, c9, rfl, hs, hb⟩
  have SX := Lib.hid hs
  clear hs
  have BW := Lib.hid (BW.out.trans (hb.mono BW.out.size))
  have hfr := Fr.of_below (S := fun _ => False) hb
  clear hb
  go_wp2_with fail
  refine hK.out _ _ hfr (fun hHeld => ?_)
  clear hK K hHeld
  try simp only [Act.put, List.setIfInBounds_toArray, List.set_cons_zero, List.set_cons_succ]
  refine wpAnyH_re (S' := fun w' => Fr (fun _ => False) w9 w') (fun w' h => hfr.trans h) ?_
  clear hfr
  refine wpAnyH_take (i := 46) (oi := ⟨some 111, _, _, _, _, _⟩) (v := ?vd46) rfl (by kernel_rfl) (by kernel_rfl) (by kernel_rfl) (fun _ _ _ h => h) (Or.inl ⟨by rfl, ?yd46⟩) (Fr.refl _ _) ?rd46
  case yd46 =>
    intro wq hSw
    (try dsimp only at hSw)
    have kk := str_of (SX.out.fr hSw (fun _ _ _ _ h => h))
    first | (go_simp; done) | (go_simp; with_reducible rfl)
  try simp only [Act.put, List.setIfInBounds_toArray, List.set_cons_zero, List.set_cons_succ]
  refine wpAnyH_take (i := 47) (oi := ⟨some 112, _, _, _, _, _⟩) (v := ?vd47) rfl (by kernel_rfl) (by kernel_rfl) (by kernel_rfl) (fun _ _ _ h => h) (Or.inl ⟨by rfl, ?yd47⟩) (Fr.refl _ _) ?rd47
  case yd47 =>
    intro wq hSw
    (try dsimp only at hSw)
    first | (go_simp; done) | (go_simp; with_reducible rfl)
  try simp only [Act.put, List.setIfInBounds_toArray, List.set_cons_zero, List.set_cons_succ]
  refine wpAnyH_take (i := 48) (oi := ⟨some 113, _, _, _, _, _⟩) (v := ?vd48) rfl (by kernel_rfl) (by kernel_rfl) (by kernel_rfl) (fun _ _ _ h => h) (Or.inl ⟨by rfl, ?yd48⟩) (Fr.refl _ _) ?rd48
  case yd48 =>
    intro wq hSw
    (try dsimp only at hSw)
    first | (go_simp; done) | (go_simp; with_reducible rfl)
  try simp only [Act.put, List.setIfInBounds_toArray, List.set_cons_zero, List.set_cons_succ]
  refine wpAnyH_take (i := 49) (oi := ⟨some 114, _, _, _, _, _⟩) (v := ?vd49) rfl (by kernel_rfl) (by kernel_rfl) (by kernel_rfl) (fun _ _ _ h => h) (Or.inl ⟨by rfl, ?yd49⟩) (Fr.refl _ _) ?rd49
  case yd49 =>
    intro wq hSw
    (try dsimp only at hSw)
    first | (go_simp; done) | (go_simp; with_reducible rfl)
  try simp only [Act.put, List.setIfInBounds_toArray, List.set_cons_zero, List.set_cons_succ]
  refine wpAnyH_take (i := 50) (oi := ⟨some 115, _, _, _, _, _⟩) (v := ?vd50) rfl (by kernel_rfl) (by kernel_rfl) (by kernel_rfl) (fun _ _ _ h => h) (Or.inl ⟨by rfl, ?yd50⟩) (Fr.refl _ _) ?rd50
  case yd50 =>
    intro wq hSw
    (try dsimp only at hSw)
    first | (go_simp; done) | (go_simp; with_reducible rfl)
  try simp only [Act.put, List.setIfInBounds_toArray, List.set_cons_zero, List.set_cons_succ]
  refine wpAnyH_take (i := 51) (oi := ⟨some 116, _, _, _, _, _⟩) (v := ?vd51) rfl (by kernel_rfl) (by kernel_rfl) (by kernel_rfl) (fun _ _ _ h => h) (Or.inl ⟨by rfl, ?yd51⟩) (Fr.refl _ _) ?rd51
  case yd51 =>
    intro wq hSw
    (try dsimp only at hSw)
    first | (go_simp; done) | (go_simp; with_reducible rfl)
  try simp only [Act.put, List.setIfInBounds_toArray, List.set_cons_zero, List.set_cons_succ]
  refine wpAnyH_take (i := 52) (oi := ⟨some 117, _, _, _, _, _⟩) (v := ?vd52) rfl (by kernel_rfl) (by kernel_rfl) (by kernel_rfl) (fun _ _ _ h => h) (Or.inl ⟨by rfl, ?yd52⟩) (Fr.refl _ _) ?rd52
  case yd52 =>
    intro wq hSw
    (try dsimp only at hSw)
    first | (go_simp; done) | (go_simp; with_reducible rfl)
  try simp only [Act.put, List.setIfInBounds_toArray, List.set_cons_zero, List.set_cons_succ]
  refine wpAnyH_take (i := 54) (oi := ⟨some 119, _, _, _, _, _⟩) (v := ?vd54) rfl (by kernel_rfl) (by kernel_rfl) (by kernel_rfl) (fun _ _ _ h => h) (Or.inl ⟨by rfl, ?yd54⟩) (Fr.refl _ _) ?rd54
  case yd54 =>
    intro wq hSw
    (try dsimp only at hSw)
    first | (go_simp; done) | (go_simp; with_reducible rfl)
  try simp only [Act.put, List.setIfInBounds_toArray, List.set_cons_zero, List.set_cons_succ]
  refine wpAnyH_take (i := 55) (oi := ⟨some 120, _, _, _, _, _⟩) (v := ?vd55) rfl (by kernel_rfl) (by kernel_rfl) (by kernel_rfl) (fun _ _ _ h => h) (Or.inl ⟨by rfl, ?yd55⟩) (Fr.refl _ _) ?rd55
  case yd55 =>
    intro wq hSw
    (try dsimp only at hSw)
    first | (go_simp; done) | (go_simp; with_reducible rfl)
  try simp only [Act.put, List.setIfInBounds_toArray, List.set_cons_zero, List.set_cons_succ]
  refine wpAnyH_take (i := 56) (oi := ⟨some 121, _, _, _, _, _⟩) (v := ?vd56) rfl (by kernel_rfl) (by kernel_rfl) (by kernel_rfl) (fun _ _ _ h => h) (Or.inl ⟨by rfl, ?yd56⟩) (Fr.refl _ _) ?rd56
  case yd56 =>
    intro wq hSw
    (try dsimp only at hSw)
    first | (go_simp; done) | (go_simp; with_reducible rfl)
  try simp only [Act.put, List.setIfInBounds_toArray, List.set_cons_zero, List.set_cons_succ]
  refine wpAnyH_take (i := 57) (oi := ⟨some 122, _, _, _, _, _⟩) (v := ?vd57) rfl (by kernel_rfl) (by kernel_rfl) (by kernel_rfl) (fun _ _ _ h => h) (Or.inl ⟨by rfl, ?yd57⟩) (Fr.refl _ _) ?rd57
  case yd57 =>
    intro wq hSw
    (try dsimp only at hSw)
    have hq := (((Fr.of_below BW.out : Fr (fun _ => False) _ _)).trans hSw).cell_some C0.out (fun h => h)
    first | (go_simp; done) | (go_simp; with_reducible rfl)
  try simp only [Act.put, List.setIfInBounds_toArray, List.set_cons_zero, List.set_cons_succ]
  refine wpAnyH_take (i := 58) (oi := ⟨some 123, _, _, _, _, _⟩) (v := ?vd58) rfl (by kernel_rfl) (by kernel_rfl) (by kernel_rfl) (fun _ _ _ h => h) (Or.inl ⟨by rfl, ?yd58⟩) (Fr.refl _ _) ?rd58
  case yd58 =>
    intro wq hSw
    (try dsimp only at hSw)
    first | (go_simp; done) | (go_simp; with_reducible rfl)
  try simp only [Act.put, List.setIfInBounds_toArray, List.set_cons_zero, List.set_cons_succ]
  refine wpAnyH_take (i := 59) (oi := ⟨some 124, _, _, _, _, _⟩) (v := ?vd59) rfl (by kernel_rfl) (by kernel_rfl) (by kernel_rfl) (fun _ _ _ h => h) (Or.inl ⟨by rfl, ?yd59⟩) (Fr.refl _ _) ?rd59
  case yd59 =>
    intro wq hSw
    (try dsimp only at hSw)
    first | (go_simp; done) | (go_simp; with_reducible rfl)
  try simp only [Act.put, List.setIfInBounds_toArray, List.set_cons_zero, List.set_cons_succ]
  refine wpAnyH_take (i := 60) (oi := ⟨some 125, _, _, _, _, _⟩) (v := ?vd60) rfl (by kernel_rfl) (by kernel_rfl) (by kernel_rfl) (fun _ _ _ h => h) (Or.inl ⟨by rfl, ?yd60⟩) (Fr.refl _ _) ?rd60
  case yd60 =>
    intro wq hSw
    (try dsimp only at hSw)
    have hq := (((Fr.of_below BW.out : Fr (fun _ => False) _ _)).trans hSw).cell_some CG.out (fun h => h)
    first | (go_simp; done) | (go_simp; with_reducible rfl)
  try simp only [Act.put, List.setIfInBounds_toArray, List.set_cons_zero, List.set_cons_succ]
  refine wpAnyH_take (i := 61) (oi := ⟨some 126, _, _, _, _, _⟩) (v := ?vd61) rfl (by kernel_rfl) (by kernel_rfl) (by kernel_rfl) (fun _ _ _ h => h) (Or.inl ⟨by rfl, ?yd61⟩) (Fr.refl _ _) ?rd61
  case yd61 =>
    intro wq hSw
    (try dsimp only at hSw)
    first | (go_simp; done) | (go_simp; with_reducible rfl)
  try simp only [Act.put, List.setIfInBounds_toArray, List.set_cons_zero, List.set_cons_succ]
  refine wpAnyH_ready (rs := [53]) (by kernel_rfl) (by simp) ?_
  refine AllReadyH.cons (o := ⟨some 118, _, _, _, _, _⟩) rfl (fun K hK => ?_) AllReadyH.nil
  go_simp
  have hh := arrotten_any DK (Arr.later DK.lay HA.out BW.out) HH.out.la.1 (i : Int) at_ h1 h2
  simp only [tellD_yes HX.out] at hh
  rw [← HRo.out] at hh
  refine hh.mono ?_; clear hh; rintro e wA ⟨rfl, hb⟩
  have BW := Lib.hid (BW.out.trans (hb.mono BW.out.size))
  have hfr := Fr.of_below (S := fun _ => False) hb
  clear hb
  go_wp2_with fail
  refine hK.out _ _ hfr (fun hHeld => ?_)
  clear hK K hHeld
  try simp only [Act.put, List.setIfInBounds_toArray, List.set_cons_zero, List.set_cons_succ]
  refine wpAnyH_re (S' := fun w' => Fr (fun _ => False) wA w') (fun w' h => hfr.trans h) ?_
  clear hfr
  refine wpAnyH_ready (rs := [62]) (by kernel_rfl) (by simp) ?_
  refine AllReadyH.cons (o := ⟨some 127, _, _, _, _, _⟩) rfl (fun K hK => ?_) AllReadyH.nil
  go_simp
  have hh := rfrotten_any at_ h1 h2 (by omega) (HRG.out.later BW.out)
  rw [← HRo.out] at hh
  refine hh.mono ?_; clear hh; rintro e wB ⟨rfl, hwB⟩
  obtain rfl : wA = wB := hwB.symm
  have hb := Below.refl wA.heap.size wA
  have BW := Lib.hid (BW.out.trans (hb.mono BW.out.size))
  have hfr := Fr.of_below (S := fun _ => False) hb
  clear hb
  go_wp2_with fail
  refine hK.out _ _ hfr (fun hHeld => ?_)
  clear hK K hHeld
  try simp only [Act.put, List.setIfInBounds_toArray, List.set_cons_zero, List.set_cons_succ]
  refine wpAnyH_re (S' := fun w' => Fr (fun _ => False) wA w') (fun w' h => hfr.trans h) ?_
  clear hfr
  refine wpAnyH_take (i := 63) (oi := ⟨some 128, _, _, _, _, _⟩) (v := ?vd63) rfl (by kernel_rfl) (by kernel_rfl) (by kernel_rfl) (fun _ _ _ h => h) (Or.inl ⟨by rfl, ?yd63⟩) (Fr.refl _ _) ?rd63
  case yd63 =>
    intro wq hSw
    (try dsimp only at hSw)
    first | (go_simp; done) | (go_simp; with_reducible rfl)
  try simp only [Act.put, List.setIfInBounds_toArray, List.set_cons_zero, List.set_cons_succ]
  refine wpAnyH_take (i := 64) (oi := ⟨some 129, _, _, _, _, _⟩) (v := ?vd64) rfl (by kernel_rfl) (by kernel_rfl) (by kernel_rfl) (fun _ _ _ h => h) (Or.inl ⟨by rfl, ?yd64⟩) (Fr.refl _ _) ?rd64
  case yd64 =>
    intro wq hSw
    (try dsimp only at hSw)
    first | (go_simp; done) | (go_simp; with_reducible rfl)
  try simp only [Act.put, List.setIfInBounds_toArray, List.set_cons_zero, List.set_cons_succ]
  refine wpAnyH_take (i := 65) (oi := ⟨some 8, _, _, _, _, _⟩) (v := ?vd65) rfl (by kernel_rfl) (by kernel_rfl) (by kernel_rfl) (fun _ _ _ h => h) (Or.inl ⟨by rfl, ?yd65⟩) (Fr.refl _ _) ?rd65
  case yd65 =>
    intro wq hSw
    (try dsimp only at hSw)
    first | (go_simp; done) | (go_simp; with_reducible rfl)
  try simp only [Act.put, List.setIfInBounds_toArray, List.set_cons_zero, List.set_cons_succ]
  refine wpAnyH_done (by kernel_rfl) ?_ _
  go_wp2_with fail
  go_ret
  exact ⟨rfl, BW.out⟩
theorem alike10_any (DK : DrvK Rep) (h : Pa Rep w0 w S A X k x x) (hk : k ≤ 90000) (d at_ : Int) (h1 : -9223372036854775808 ≤ at_) (h2 : at_ < 9223372036854775808) : Calls Try.prog 14 #[.pointer (some ⟨A, 0, none⟩), .pointer (some ⟨X, 0, none⟩), .int .i64 d, .int .i64 at_] w (SaysTrue w) := by
  rcases ofD_cases x d with ⟨i, xi, rfl, hx⟩ | hn
  · exact alike10_yes DK h hk i at_ h1 h2 hx
  · exact alike10_no DK h hk d at_ h1 h2 hn
end
end Go.Proofs.Ytjjoeaneaibklaa
