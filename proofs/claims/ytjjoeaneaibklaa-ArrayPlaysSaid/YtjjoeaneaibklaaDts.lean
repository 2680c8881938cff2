/-
  Layer 10's act, over DrvK: an act is done to both arrays, and their answers are the same. (Written by gen_dts.py.)
-/
import Derived.Test.YtjjoeaneaibklaaDtr
import Derived.Deep.RegionHeld3
namespace Go.Proofs.Ytjjoeaneaibklaa
open Go.RowKit Go.Proofs
set_option linter.unusedVariables false

/-- So many drives of so many sectors. -/
def Sz (M N : Nat) (xs : List Dv) : Prop := xs.length = N ∧ ∀ (i : Nat) (x : Dv), xs[i]? = some x → x.n = M
theorem Sz.on {M N : Nat} {xs : List Dv} {z : Int} {f : Dv → Dv} (h : Sz M N xs) (hf : ∀ x : Dv, (f x).n = x.n) : Sz M N (onD xs z f) := by
  refine ⟨onD_len.trans h.1, ?_⟩
  rcases ofD_cases xs z with ⟨i, x, rfl, hx⟩ | hn
  · rw [onD_yes hx]
    intro j y hy
    rw [List.getElem?_set] at hy
    split at hy
    · split at hy
      · injection hy with hy
        rw [← hy, hf]
        exact h.2 i x hx
      · cases hy
    · exact h.2 j y hy
  · rw [onD_no hn]
    exact h.2
theorem Sz.up {M N t : Nat} {xs : List Dv} {F : Nat → Dv → Dv} (h : Sz M N xs) (hF : ∀ i (x : Dv), (F i x).n = x.n) : Sz M N (upTo F xs t) := by
  refine ⟨upTo_len.trans h.1, fun i x hx => ?_⟩
  have hi := get_lt hx
  rw [upTo_len] at hi
  have hy : xs[i]? = some (xs[i]) := List.getElem?_eq_getElem hi
  rw [upTo_at hy] at hx
  injection hx with hx
  rw [← hx]
  split
  · rw [hF]; exact h.2 i _ hy
  · exact h.2 i _ hy
theorem write_n10 (x : Dv) (z : Int) (l : List UInt8) : (x.write z l).n = x.n := by
  unfold Dv.write
  split
  · rfl
  · split <;> rfl
theorem flush_n10 (x : Dv) : x.flush1.n = x.n := by
  unfold Dv.flush1
  split
  · rfl
  · exact Dv.flush_n
theorem rot_n10 (x : Dv) (z o m : Int) : (x.rot1 z o m).n = x.n := by
  unfold Dv.rot1
  split
  · simp [Dv.rotAt, Dv.n]
  · rfl
theorem fail_n10 (x : Dv) : x.fail.n = x.n := by simp [Dv.fail, Dv.n]
theorem put_n10 (rs : List (List UInt8)) (z : Int) (i : Nat) (x : Dv) : (putF rs z i x).n = x.n := by
  unfold putF
  split
  · exact write_n10 _ _ _
  · rfl
section
variable {Rep : World → (Nat → Prop) → Nat → Dv → Prop} {w0 w w' : World} {S : Nat → Prop} {A X k M N : Nat} {x : List Dv}
/-- What act answers. -/
def RetAct10 (Rep : World → (Nat → Prop) → Nat → Dv → Prop) (w0 w : World) (S : Nat → Prop) (A X k M N : Nat) (e : Ending) (w' : World) : Prop := ∃ y S', e = .returned (.bool true) ∧ Pa Rep w0 w' S' A X (k + 25) y y ∧ Sz M N y ∧ Nxt S S' w w'
set_option maxRecDepth 100000
set_option maxHeartbeats 12800000
theorem act10_any (DK : DrvK Rep) (h : Pa Rep w0 w S A X k x x) (hsz : Sz M N x) (hk : k ≤ 80000) (a : Bc) (ha : a.Ok w0) : Calls Try.prog 11 #[.pointer (some ⟨A, 0, none⟩), .pointer (some ⟨X, 0, none⟩), .agg a.vals.toArray] w (RetAct10 Rep w0 w S A X k M N) := by
  obtain ⟨kind, d, at_, off, c, mask, ks, KA, kc⟩ := a
  have HA := Lib.hid ha
  have SZ := Lib.hid hsz
  obtain ⟨w1, hw1⟩ : ∃ v, v = w.alloc (.cells #[.int .i64 kind, .int .i64 d, .int .i64 at_, .int .i64 off, .int .u8 (c.toNat : Int), .int .u32 (mask : Int), .slice KA ks.length kc] 33) := ⟨_, rfl⟩
  have hrow : w1.heap[w.heap.size]? = some (.cells #[.int .i64 kind, .int .i64 d, .int .i64 at_, .int .i64 off, .int .u8 (c.toNat : Int), .int .u32 (mask : Int), .slice KA ks.length kc] 33 (0, 0)) := by rw [hw1]; exact heap_alloc_new w _
  have hb1 : Below w.heap.size w w1 := by rw [hw1]; exact (Below.refl _ _).alloc (Nat.le_refl _) _
  have hz1 : w1.heap.size = w.heap.size + 1 := by rw [hw1]; simp
  have NB := Lib.hid (show ¬ (S w.heap.size ∨ w1.heap.size ≤ w.heap.size) from by
    rintro (q | q)
    · have := h.lt q; omega
    · omega)
  have NS := Lib.hid (show ¬ S w.heap.size from fun q => by have := h.lt q; omega)
  have P0 := Lib.hid (h.later DK hb1)
  have P1 := Lib.hid ((h.later DK hb1).later DK (Below.drew (Below.refl _ _)))
  have HB1 := Lib.hid hb1
  have Hw1 := Lib.hid hw1
  have OS := Lib.hid (show ∀ b, w1.heap.size ≤ b → ¬ S b from fun b hb q => by have := h.lt q; omega)
  have q0 : w1.cell? ⟨w.heap.size, 0, none⟩ = some (.int .i64 kind) := by rw [cell_of_row _ _ _ _ _ _ hrow]; rfl
  have Q1 := Lib.hid (show w1.drew.cell? ⟨w.heap.size, 1, none⟩ = some (.int .i64 d) by rw [show w1.drew.cell? ⟨w.heap.size, 1, none⟩ = w1.cell? ⟨w.heap.size, 1, none⟩ from rfl, cell_of_row _ _ _ _ _ _ hrow]; rfl)
  have Q2 := Lib.hid (show w1.drew.cell? ⟨w.heap.size, 2, none⟩ = some (.int .i64 at_) by rw [show w1.drew.cell? ⟨w.heap.size, 2, none⟩ = w1.cell? ⟨w.heap.size, 2, none⟩ from rfl, cell_of_row _ _ _ _ _ _ hrow]; rfl)
  have Q3 := Lib.hid (show w1.drew.cell? ⟨w.heap.size, 3, none⟩ = some (.int .i64 off) by rw [show w1.drew.cell? ⟨w.heap.size, 3, none⟩ = w1.cell? ⟨w.heap.size, 3, none⟩ from rfl, cell_of_row _ _ _ _ _ _ hrow]; rfl)
  have Q4 := Lib.hid (show w1.drew.cell? ⟨w.heap.size, 4, none⟩ = some (.int .u8 (c.toNat : Int)) by rw [show w1.drew.cell? ⟨w.heap.size, 4, none⟩ = w1.cell? ⟨w.heap.size, 4, none⟩ from rfl, cell_of_row _ _ _ _ _ _ hrow]; rfl)
  have Q5 := Lib.hid (show w1.drew.cell? ⟨w.heap.size, 5, none⟩ = some (.int .u32 (mask : Int)) by rw [show w1.drew.cell? ⟨w.heap.size, 5, none⟩ = w1.cell? ⟨w.heap.size, 5, none⟩ from rfl, cell_of_row _ _ _ _ _ _ hrow]; rfl)
  have q6 : w1.cell? ⟨w.heap.size, 6, none⟩ = some (.slice KA ks.length kc) := by rw [cell_of_row _ _ _ _ _ _ hrow]; rfl
  have Q6 := Lib.hid q6
  clear hrow hb1 hz1 hw1 h ha hsz
  show Calls Try.prog 11 #[.pointer (some ⟨A, 0, none⟩), .pointer (some ⟨X, 0, none⟩), .agg #[.int .i64 kind, .int .i64 d, .int .i64 at_, .int .i64 off, .int .u8 (c.toNat : Int), .int .u32 (mask : Int), .slice KA ks.length kc]] w _
  by_cases k0 : kind = 0
  · subst k0
    clear q6 Q6
    go_enter Try.func11, Try.ntmps11
    go_wp2_with fail
    rw [← Hw1.out]
    go_wp2_with fail
    refine wp_region_held_drew (S := fun w' => Fr (fun b => S b ∨ w1.heap.size ≤ b) w1.drew w') (by kernel_rfl) (Fr.refl _ _) (fun hHeld => ?_)
    clear hHeld
    refine wpAnyH_take (i := 0) (oi := ⟨some 13, _, _, _, _, _⟩) (v := ?va0) rfl (by kernel_rfl) (by kernel_rfl) (by kernel_rfl) (fun _ _ _ h => h) (Or.inl ⟨by rfl, ?ya0⟩) (Fr.refl _ _) ?ra0
    case ya0 =>
      intro wq hSw
      (try dsimp only at hSw)
      first | (go_simp; done) | (go_simp; with_reducible rfl)
    try simp only [Act.put, List.setIfInBounds_toArray, List.set_cons_zero, List.set_cons_succ]
    refine wpAnyH_take (i := 1) (oi := ⟨some 14, _, _, _, _, _⟩) (v := ?va1) rfl (by kernel_rfl) (by kernel_rfl) (by kernel_rfl) (fun _ _ _ h => h) (Or.inl ⟨by rfl, ?ya1⟩) (Fr.refl _ _) ?ra1
    case ya1 =>
      intro wq hSw
      (try dsimp only at hSw)
      first | (go_simp; done) | (go_simp; with_reducible rfl)
    try simp only [Act.put, List.setIfInBounds_toArray, List.set_cons_zero, List.set_cons_succ]
    refine wpAnyH_take (i := 2) (oi := ⟨some 15, _, _, _, _, _⟩) (v := ?va2) rfl (by kernel_rfl) (by kernel_rfl) (by kernel_rfl) (fun _ _ _ h => h) (Or.inl ⟨by rfl, ?ya2⟩) (Fr.refl _ _) ?ra2
    case ya2 =>
      intro wq hSw
      (try dsimp only at hSw)
      have hq := hSw.cell_some Q1.out NB.out
      first | (go_simp; done) | (go_simp; with_reducible rfl)
    try simp only [Act.put, List.setIfInBounds_toArray, List.set_cons_zero, List.set_cons_succ]
    refine wpAnyH_take (i := 3) (oi := ⟨some 16, _, _, _, _, _⟩) (v := ?va3) rfl (by kernel_rfl) (by kernel_rfl) (by kernel_rfl) (fun _ _ _ h => h) (Or.inl ⟨by rfl, ?ya3⟩) (Fr.refl _ _) ?ra3
    case ya3 =>
      intro wq hSw
      (try dsimp only at hSw)
      first | (go_simp; done) | (go_simp; with_reducible rfl)
    try simp only [Act.put, List.setIfInBounds_toArray, List.set_cons_zero, List.set_cons_succ]
    refine wpAnyH_take (i := 4) (oi := ⟨some 17, _, _, _, _, _⟩) (v := ?va4) rfl (by kernel_rfl) (by kernel_rfl) (by kernel_rfl) (fun _ _ _ h => h) (Or.inl ⟨by rfl, ?ya4⟩) (Fr.refl _ _) ?ra4
    case ya4 =>
      intro wq hSw
      (try dsimp only at hSw)
      have hq := hSw.cell_some Q2.out NB.out
      first | (go_simp; done) | (go_simp; with_reducible rfl)
    try simp only [Act.put, List.setIfInBounds_toArray, List.set_cons_zero, List.set_cons_succ]
    refine wpAnyH_take (i := 5) (oi := ⟨some 18, _, _, _, _, _⟩) (v := ?va5) rfl (by kernel_rfl) (by kernel_rfl) (by kernel_rfl) (fun _ _ _ h => h) (Or.inl ⟨by rfl, ?ya5⟩) (Fr.refl _ _) ?ra5
    case ya5 =>
      intro wq hSw
      (try dsimp only at hSw)
      first | (go_simp; done) | (go_simp; with_reducible rfl)
    try simp only [Act.put, List.setIfInBounds_toArray, List.set_cons_zero, List.set_cons_succ]
    refine wpAnyH_take (i := 6) (oi := ⟨some 19, _, _, _, _, _⟩) (v := ?va6) rfl (by kernel_rfl) (by kernel_rfl) (by kernel_rfl) (fun _ _ _ h => h) (Or.inl ⟨by rfl, ?ya6⟩) (Fr.refl _ _) ?ra6
    case ya6 =>
      intro wq hSw
      (try dsimp only at hSw)
      have hq := hSw.cell_some Q4.out NB.out
      first | (go_simp; done) | (go_simp; with_reducible rfl)
    try simp only [Act.put, List.setIfInBounds_toArray, List.set_cons_zero, List.set_cons_succ]
    refine wpAnyH_take (i := 9) (oi := ⟨some 22, _, _, _, _, _⟩) (v := ?va9) rfl (by kernel_rfl) (by kernel_rfl) (by kernel_rfl) (fun _ _ _ h => h) (Or.inl ⟨by rfl, ?ya9⟩) (Fr.refl _ _) ?ra9
    case ya9 =>
      intro wq hSw
      (try dsimp only at hSw)
      first | (go_simp; done) | (go_simp; with_reducible rfl)
    try simp only [Act.put, List.setIfInBounds_toArray, List.set_cons_zero, List.set_cons_succ]
    refine wpAnyH_take (i := 10) (oi := ⟨some 23, _, _, _, _, _⟩) (v := ?va10) rfl (by kernel_rfl) (by kernel_rfl) (by kernel_rfl) (fun _ _ _ h => h) (Or.inl ⟨by rfl, ?ya10⟩) (Fr.refl _ _) ?ra10
    case ya10 =>
      intro wq hSw
      (try dsimp only at hSw)
      first | (go_simp; done) | (go_simp; with_reducible rfl)
    try simp only [Act.put, List.setIfInBounds_toArray, List.set_cons_zero, List.set_cons_succ]
    refine wpAnyH_take (i := 11) (oi := ⟨some 24, _, _, _, _, _⟩) (v := ?va11) rfl (by kernel_rfl) (by kernel_rfl) (by kernel_rfl) (fun _ _ _ h => h) (Or.inl ⟨by rfl, ?ya11⟩) (Fr.refl _ _) ?ra11
    case ya11 =>
      intro wq hSw
      (try dsimp only at hSw)
      have hq := hSw.cell_some Q1.out NB.out
      first | (go_simp; done) | (go_simp; with_reducible rfl)
    try simp only [Act.put, List.setIfInBounds_toArray, List.set_cons_zero, List.set_cons_succ]
    refine wpAnyH_take (i := 12) (oi := ⟨some 25, _, _, _, _, _⟩) (v := ?va12) rfl (by kernel_rfl) (by kernel_rfl) (by kernel_rfl) (fun _ _ _ h => h) (Or.inl ⟨by rfl, ?ya12⟩) (Fr.refl _ _) ?ra12
    case ya12 =>
      intro wq hSw
      (try dsimp only at hSw)
      first | (go_simp; done) | (go_simp; with_reducible rfl)
    try simp only [Act.put, List.setIfInBounds_toArray, List.set_cons_zero, List.set_cons_succ]
    refine wpAnyH_take (i := 13) (oi := ⟨some 26, _, _, _, _, _⟩) (v := ?va13) rfl (by kernel_rfl) (by kernel_rfl) (by kernel_rfl) (fun _ _ _ h => h) (Or.inl ⟨by rfl, ?ya13⟩) (Fr.refl _ _) ?ra13
    case ya13 =>
      intro wq hSw
      (try dsimp only at hSw)
      have hq := hSw.cell_some Q2.out NB.out
      first | (go_simp; done) | (go_simp; with_reducible rfl)
    try simp only [Act.put, List.setIfInBounds_toArray, List.set_cons_zero, List.set_cons_succ]
    refine wpAnyH_take (i := 14) (oi := ⟨some 27, _, _, _, _, _⟩) (v := ?va14) rfl (by kernel_rfl) (by kernel_rfl) (by kernel_rfl) (fun _ _ _ h => h) (Or.inl ⟨by rfl, ?ya14⟩) (Fr.refl _ _) ?ra14
    case ya14 =>
      intro wq hSw
      (try dsimp only at hSw)
      first | (go_simp; done) | (go_simp; with_reducible rfl)
    try simp only [Act.put, List.setIfInBounds_toArray, List.set_cons_zero, List.set_cons_succ]
    refine wpAnyH_take (i := 15) (oi := ⟨some 28, _, _, _, _, _⟩) (v := ?va15) rfl (by kernel_rfl) (by kernel_rfl) (by kernel_rfl) (fun _ _ _ h => h) (Or.inl ⟨by rfl, ?ya15⟩) (Fr.refl _ _) ?ra15
    case ya15 =>
      intro wq hSw
      (try dsimp only at hSw)
      have hq := hSw.cell_some Q4.out NB.out
      first | (go_simp; done) | (go_simp; with_reducible rfl)
    try simp only [Act.put, List.setIfInBounds_toArray, List.set_cons_zero, List.set_cons_succ]
    refine wpAnyH_ready (rs := [7]) (by kernel_rfl) (by simp) ?_
    refine AllReadyH.cons (o := ⟨some 20, _, _, _, _, _⟩) rfl (fun K hK => ?_) AllReadyH.nil
    go_simp
    refine (full10 _ c rfl _).mono ?_; rintro e w2 ⟨Aw2, cw2, rfl, hs, hb, -⟩
    have Pw2 := Lib.hid (P1.out.later DK hb)
    have Sw2 := Lib.hid hs
    have Zw2 := Lib.hid hb
    have hfr := Fr.of_below (S := fun b => S b ∨ w1.heap.size ≤ b) hb
    clear hs hb
    go_wp2_with fail
    refine hK.out _ _ hfr (fun hHeld => ?_)
    clear hK K hHeld
    try simp only [Act.put, List.setIfInBounds_toArray, List.set_cons_zero, List.set_cons_succ]
    refine wpAnyH_re (S' := fun w' => Fr (fun b => S b ∨ w1.heap.size ≤ b) w2 w') (fun w' h => hfr.trans h) ?_
    clear hfr
    refine wpAnyH_ready (rs := [8]) (by kernel_rfl) (by simp) ?_
    refine AllReadyH.cons (o := ⟨some 21, _, _, _, _, _⟩) rfl (fun K hK => ?_) AllReadyH.nil
    go_simp
    refine (Pw2.out.dwrite DK (by omega) d at_ Aw2 64 cw2 (full c) HA.out.at1 HA.out.at2 Sw2.out).mono ?_; rintro e w3 ⟨rfl, Sw3, hp, hn⟩
    have Pw3 := Lib.hid hp
    have Nw3 := Lib.hid hn
    have hfr := hn.1.mono (fun b hb => (show S b ∨ w1.heap.size ≤ b from .inl hb))
    clear hp hn
    go_wp2_with fail
    refine hK.out _ _ hfr (fun hHeld => ?_)
    clear hK K hHeld
    try simp only [Act.put, List.setIfInBounds_toArray, List.set_cons_zero, List.set_cons_succ]
    refine wpAnyH_re (S' := fun w' => Fr (fun b => S b ∨ w1.heap.size ≤ b) w3 w') (fun w' h => hfr.trans h) ?_
    clear hfr
    refine wpAnyH_ready (rs := [16]) (by kernel_rfl) (by simp) ?_
    refine AllReadyH.cons (o := ⟨some 29, _, _, _, _, _⟩) rfl (fun K hK => ?_) AllReadyH.nil
    go_simp
    refine (full10 _ c rfl _).mono ?_; rintro e w4 ⟨Aw4, cw4, rfl, hs, hb, -⟩
    have Pw4 := Lib.hid (Pw3.out.later DK hb)
    have Sw4 := Lib.hid hs
    have Zw4 := Lib.hid hb
    have hfr := Fr.of_below (S := fun b => S b ∨ w1.heap.size ≤ b) hb
    clear hs hb
    go_wp2_with fail
    refine hK.out _ _ hfr (fun hHeld => ?_)
    clear hK K hHeld
    try simp only [Act.put, List.setIfInBounds_toArray, List.set_cons_zero, List.set_cons_succ]
    refine wpAnyH_re (S' := fun w' => Fr (fun b => S b ∨ w1.heap.size ≤ b) w4 w') (fun w' h => hfr.trans h) ?_
    clear hfr
    refine wpAnyH_ready (rs := [17]) (by kernel_rfl) (by simp) ?_
    refine AllReadyH.cons (o := ⟨some 30, _, _, _, _, _⟩) rfl (fun K hK => ?_) AllReadyH.nil
    go_simp
    refine (Pw4.out.xwrite DK (by omega) d at_ Aw4 64 cw4 (full c) HA.out.at1 HA.out.at2 Sw4.out).mono ?_; rintro e w5 ⟨rfl, Sw5, hp, hn⟩
    have Pw5 := Lib.hid hp
    have Nw5 := Lib.hid hn
    have hfr := hn.1.mono (fun b hb => (show S b ∨ w1.heap.size ≤ b from (Nw3.out.2 b hb).imp id (fun q => by have := Zw2.out.size; have : w1.drew.heap.size = w1.heap.size := rfl; omega)))
    clear hp hn
    go_wp2_with fail
    refine hK.out _ _ hfr (fun hHeld => ?_)
    clear hK K hHeld
    try simp only [Act.put, List.setIfInBounds_toArray, List.set_cons_zero, List.set_cons_succ]
    refine wpAnyH_re (S' := fun w' => Fr (fun b => S b ∨ w1.heap.size ≤ b) w5 w') (fun w' h => hfr.trans h) ?_
    clear hfr
    refine wpAnyH_take (i := 18) (oi := ⟨some 31, _, _, _, _, _⟩) (v := (.bool true)) rfl (by kernel_rfl) (by kernel_rfl) (by kernel_rfl) (fun _ _ _ h => h) (Or.inl ⟨by rfl, ?ya18⟩) (Fr.refl _ _) ?ra18
    case ya18 =>
      intro wq hSw
      exact step_eqi10 (x := .tmp 21) (y := .tmp 30) rfl rfl rfl (decide_eq_true rfl)
    try simp only [Act.put, List.setIfInBounds_toArray, List.set_cons_zero, List.set_cons_succ]
    refine wpAnyH_take (i := 19) (oi := ⟨some 6, _, _, _, _, _⟩) (v := ?va19) rfl (by kernel_rfl) (by kernel_rfl) (by kernel_rfl) (fun _ _ _ h => h) (Or.inl ⟨by rfl, ?ya19⟩) (Fr.refl _ _) ?ra19
    case ya19 =>
      intro wq hSw
      (try dsimp only at hSw)
      first | (go_simp; done) | (go_simp; with_reducible rfl)
    try simp only [Act.put, List.setIfInBounds_toArray, List.set_cons_zero, List.set_cons_succ]
    refine wpAnyH_done (by kernel_rfl) ?_ _
    go_wp2_with fail
    go_ret
    exact ⟨_, Sw5, rfl, Pw5.out.mono (by omega), SZ.out.on (fun x => write_n10 x _ _), (((Nw3.out.below ((Below.drew HB1.out).trans (Zw2.out.mono HB1.out.size))).later Zw4.out)).trans Nw5.out⟩
  by_cases k1 : kind = 1
  · subst k1
    clear q6 Q6
    go_enter Try.func11, Try.ntmps11
    go_wp2_with fail
    rw [← Hw1.out]
    go_wp2_with fail
    refine wp_region_held_drew (S := fun w' => Fr (fun b => S b ∨ w1.heap.size ≤ b) w1.drew w') (by kernel_rfl) (Fr.refl _ _) (fun hHeld => ?_)
    clear hHeld
    refine wpAnyH_take (i := 0) (oi := ⟨some 13, _, _, _, _, _⟩) (v := ?ve0) rfl (by kernel_rfl) (by kernel_rfl) (by kernel_rfl) (fun _ _ _ h => h) (Or.inl ⟨by rfl, ?ye0⟩) (Fr.refl _ _) ?re0
    case ye0 =>
      intro wq hSw
      (try dsimp only at hSw)
      first | (go_simp; done) | (go_simp; with_reducible rfl)
    try simp only [Act.put, List.setIfInBounds_toArray, List.set_cons_zero, List.set_cons_succ]
    refine wpAnyH_take (i := 1) (oi := ⟨some 14, _, _, _, _, _⟩) (v := ?ve1) rfl (by kernel_rfl) (by kernel_rfl) (by kernel_rfl) (fun _ _ _ h => h) (Or.inl ⟨by rfl, ?ye1⟩) (Fr.refl _ _) ?re1
    case ye1 =>
      intro wq hSw
      (try dsimp only at hSw)
      first | (go_simp; done) | (go_simp; with_reducible rfl)
    try simp only [Act.put, List.setIfInBounds_toArray, List.set_cons_zero, List.set_cons_succ]
    refine wpAnyH_take (i := 2) (oi := ⟨some 15, _, _, _, _, _⟩) (v := ?ve2) rfl (by kernel_rfl) (by kernel_rfl) (by kernel_rfl) (fun _ _ _ h => h) (Or.inl ⟨by rfl, ?ye2⟩) (Fr.refl _ _) ?re2
    case ye2 =>
      intro wq hSw
      (try dsimp only at hSw)
      have hq := hSw.cell_some Q1.out NB.out
      first | (go_simp; done) | (go_simp; with_reducible rfl)
    try simp only [Act.put, List.setIfInBounds_toArray, List.set_cons_zero, List.set_cons_succ]
    refine wpAnyH_take (i := 3) (oi := ⟨some 16, _, _, _, _, _⟩) (v := ?ve3) rfl (by kernel_rfl) (by kernel_rfl) (by kernel_rfl) (fun _ _ _ h => h) (Or.inl ⟨by rfl, ?ye3⟩) (Fr.refl _ _) ?re3
    case ye3 =>
      intro wq hSw
      (try dsimp only at hSw)
      first | (go_simp; done) | (go_simp; with_reducible rfl)
    try simp only [Act.put, List.setIfInBounds_toArray, List.set_cons_zero, List.set_cons_succ]
    refine wpAnyH_take (i := 4) (oi := ⟨some 17, _, _, _, _, _⟩) (v := ?ve4) rfl (by kernel_rfl) (by kernel_rfl) (by kernel_rfl) (fun _ _ _ h => h) (Or.inl ⟨by rfl, ?ye4⟩) (Fr.refl _ _) ?re4
    case ye4 =>
      intro wq hSw
      (try dsimp only at hSw)
      have hq := hSw.cell_some Q2.out NB.out
      first | (go_simp; done) | (go_simp; with_reducible rfl)
    try simp only [Act.put, List.setIfInBounds_toArray, List.set_cons_zero, List.set_cons_succ]
    refine wpAnyH_take (i := 5) (oi := ⟨some 18, _, _, _, _, _⟩) (v := ?ve5) rfl (by kernel_rfl) (by kernel_rfl) (by kernel_rfl) (fun _ _ _ h => h) (Or.inl ⟨by rfl, ?ye5⟩) (Fr.refl _ _) ?re5
    case ye5 =>
      intro wq hSw
      (try dsimp only at hSw)
      first | (go_simp; done) | (go_simp; with_reducible rfl)
    try simp only [Act.put, List.setIfInBounds_toArray, List.set_cons_zero, List.set_cons_succ]
    refine wpAnyH_take (i := 6) (oi := ⟨some 19, _, _, _, _, _⟩) (v := ?ve6) rfl (by kernel_rfl) (by kernel_rfl) (by kernel_rfl) (fun _ _ _ h => h) (Or.inl ⟨by rfl, ?ye6⟩) (Fr.refl _ _) ?re6
    case ye6 =>
      intro wq hSw
      (try dsimp only at hSw)
      have hq := hSw.cell_some Q4.out NB.out
      first | (go_simp; done) | (go_simp; with_reducible rfl)
    try simp only [Act.put, List.setIfInBounds_toArray, List.set_cons_zero, List.set_cons_succ]
    refine wpAnyH_take (i := 9) (oi := ⟨some 22, _, _, _, _, _⟩) (v := ?ve9) rfl (by kernel_rfl) (by kernel_rfl) (by kernel_rfl) (fun _ _ _ h => h) (Or.inl ⟨by rfl, ?ye9⟩) (Fr.refl _ _) ?re9
    case ye9 =>
      intro wq hSw
      (try dsimp only at hSw)
      first | (go_simp; done) | (go_simp; with_reducible rfl)
    try simp only [Act.put, List.setIfInBounds_toArray, List.set_cons_zero, List.set_cons_succ]
    refine wpAnyH_take (i := 10) (oi := ⟨some 23, _, _, _, _, _⟩) (v := ?ve10) rfl (by kernel_rfl) (by kernel_rfl) (by kernel_rfl) (fun _ _ _ h => h) (Or.inl ⟨by rfl, ?ye10⟩) (Fr.refl _ _) ?re10
    case ye10 =>
      intro wq hSw
      (try dsimp only at hSw)
      first | (go_simp; done) | (go_simp; with_reducible rfl)
    try simp only [Act.put, List.setIfInBounds_toArray, List.set_cons_zero, List.set_cons_succ]
    refine wpAnyH_take (i := 11) (oi := ⟨some 24, _, _, _, _, _⟩) (v := ?ve11) rfl (by kernel_rfl) (by kernel_rfl) (by kernel_rfl) (fun _ _ _ h => h) (Or.inl ⟨by rfl, ?ye11⟩) (Fr.refl _ _) ?re11
    case ye11 =>
      intro wq hSw
      (try dsimp only at hSw)
      have hq := hSw.cell_some Q1.out NB.out
      first | (go_simp; done) | (go_simp; with_reducible rfl)
    try simp only [Act.put, List.setIfInBounds_toArray, List.set_cons_zero, List.set_cons_succ]
    refine wpAnyH_take (i := 12) (oi := ⟨some 25, _, _, _, _, _⟩) (v := ?ve12) rfl (by kernel_rfl) (by kernel_rfl) (by kernel_rfl) (fun _ _ _ h => h) (Or.inl ⟨by rfl, ?ye12⟩) (Fr.refl _ _) ?re12
    case ye12 =>
      intro wq hSw
      (try dsimp only at hSw)
      first | (go_simp; done) | (go_simp; with_reducible rfl)
    try simp only [Act.put, List.setIfInBounds_toArray, List.set_cons_zero, List.set_cons_succ]
    refine wpAnyH_take (i := 13) (oi := ⟨some 26, _, _, _, _, _⟩) (v := ?ve13) rfl (by kernel_rfl) (by kernel_rfl) (by kernel_rfl) (fun _ _ _ h => h) (Or.inl ⟨by rfl, ?ye13⟩) (Fr.refl _ _) ?re13
    case ye13 =>
      intro wq hSw
      (try dsimp only at hSw)
      have hq := hSw.cell_some Q2.out NB.out
      first | (go_simp; done) | (go_simp; with_reducible rfl)
    try simp only [Act.put, List.setIfInBounds_toArray, List.set_cons_zero, List.set_cons_succ]
    refine wpAnyH_take (i := 14) (oi := ⟨some 27, _, _, _, _, _⟩) (v := ?ve14) rfl (by kernel_rfl) (by kernel_rfl) (by kernel_rfl) (fun _ _ _ h => h) (Or.inl ⟨by rfl, ?ye14⟩) (Fr.refl _ _) ?re14
    case ye14 =>
      intro wq hSw
      (try dsimp only at hSw)
      first | (go_simp; done) | (go_simp; with_reducible rfl)
    try simp only [Act.put, List.setIfInBounds_toArray, List.set_cons_zero, List.set_cons_succ]
    refine wpAnyH_take (i := 15) (oi := ⟨some 28, _, _, _, _, _⟩) (v := ?ve15) rfl (by kernel_rfl) (by kernel_rfl) (by kernel_rfl) (fun _ _ _ h => h) (Or.inl ⟨by rfl, ?ye15⟩) (Fr.refl _ _) ?re15
    case ye15 =>
      intro wq hSw
      (try dsimp only at hSw)
      have hq := hSw.cell_some Q4.out NB.out
      first | (go_simp; done) | (go_simp; with_reducible rfl)
    try simp only [Act.put, List.setIfInBounds_toArray, List.set_cons_zero, List.set_cons_succ]
    refine wpAnyH_ready (rs := [7]) (by kernel_rfl) (by simp) ?_
    refine AllReadyH.cons (o := ⟨some 20, _, _, _, _, _⟩) rfl (fun K hK => ?_) AllReadyH.nil
    go_simp
    refine (full10 _ c rfl _).mono ?_; rintro e w2 ⟨Aw2, cw2, rfl, hs, hb, -⟩
    have Pw2 := Lib.hid (P1.out.later DK hb)
    have Sw2 := Lib.hid hs
    have Zw2 := Lib.hid hb
    have hfr := Fr.of_below (S := fun b => S b ∨ w1.heap.size ≤ b) hb
    clear hs hb
    go_wp2_with fail
    refine hK.out _ _ hfr (fun hHeld => ?_)
    clear hK K hHeld
    try simp only [Act.put, List.setIfInBounds_toArray, List.set_cons_zero, List.set_cons_succ]
    refine wpAnyH_re (S' := fun w' => Fr (fun b => S b ∨ w1.heap.size ≤ b) w2 w') (fun w' h => hfr.trans h) ?_
    clear hfr
    refine wpAnyH_ready (rs := [8]) (by kernel_rfl) (by simp) ?_
    refine AllReadyH.cons (o := ⟨some 21, _, _, _, _, _⟩) rfl (fun K hK => ?_) AllReadyH.nil
    go_simp
    refine (Pw2.out.dwrite DK (by omega) d at_ Aw2 64 cw2 (full c) HA.out.at1 HA.out.at2 Sw2.out).mono ?_; rintro e w3 ⟨rfl, Sw3, hp, hn⟩
    have Pw3 := Lib.hid hp
    have Nw3 := Lib.hid hn
    have hfr := hn.1.mono (fun b hb => (show S b ∨ w1.heap.size ≤ b from .inl hb))
    clear hp hn
    go_wp2_with fail
    refine hK.out _ _ hfr (fun hHeld => ?_)
    clear hK K hHeld
    try simp only [Act.put, List.setIfInBounds_toArray, List.set_cons_zero, List.set_cons_succ]
    refine wpAnyH_re (S' := fun w' => Fr (fun b => S b ∨ w1.heap.size ≤ b) w3 w') (fun w' h => hfr.trans h) ?_
    clear hfr
    refine wpAnyH_ready (rs := [16]) (by kernel_rfl) (by simp) ?_
    refine AllReadyH.cons (o := ⟨some 29, _, _, _, _, _⟩) rfl (fun K hK => ?_) AllReadyH.nil
    go_simp
    refine (full10 _ c rfl _).mono ?_; rintro e w4 ⟨Aw4, cw4, rfl, hs, hb, -⟩
    have Pw4 := Lib.hid (Pw3.out.later DK hb)
    have Sw4 := Lib.hid hs
    have Zw4 := Lib.hid hb
    have hfr := Fr.of_below (S := fun b => S b ∨ w1.heap.size ≤ b) hb
    clear hs hb
    go_wp2_with fail
    refine hK.out _ _ hfr (fun hHeld => ?_)
    clear hK K hHeld
    try simp only [Act.put, List.setIfInBounds_toArray, List.set_cons_zero, List.set_cons_succ]
    refine wpAnyH_re (S' := fun w' => Fr (fun b => S b ∨ w1.heap.size ≤ b) w4 w') (fun w' h => hfr.trans h) ?_
    clear hfr
    refine wpAnyH_ready (rs := [17]) (by kernel_rfl) (by simp) ?_
    refine AllReadyH.cons (o := ⟨some 30, _, _, _, _, _⟩) rfl (fun K hK => ?_) AllReadyH.nil
    go_simp
    refine (Pw4.out.xwrite DK (by omega) d at_ Aw4 64 cw4 (full c) HA.out.at1 HA.out.at2 Sw4.out).mono ?_; rintro e w5 ⟨rfl, Sw5, hp, hn⟩
    have Pw5 := Lib.hid hp
    have Nw5 := Lib.hid hn
    have hfr := hn.1.mono (fun b hb => (show S b ∨ w1.heap.size ≤ b from (Nw3.out.2 b hb).imp id (fun q => by have := Zw2.out.size; have : w1.drew.heap.size = w1.heap.size := rfl; omega)))
    clear hp hn
    go_wp2_with fail
    refine hK.out _ _ hfr (fun hHeld => ?_)
    clear hK K hHeld
    try simp only [Act.put, List.setIfInBounds_toArray, List.set_cons_zero, List.set_cons_succ]
    refine wpAnyH_re (S' := fun w' => Fr (fun b => S b ∨ w1.heap.size ≤ b) w5 w') (fun w' h => hfr.trans h) ?_
    clear hfr
    refine wpAnyH_take (i := 18) (oi := ⟨some 31, _, _, _, _, _⟩) (v := (.bool true)) rfl (by kernel_rfl) (by kernel_rfl) (by kernel_rfl) (fun _ _ _ h => h) (Or.inl ⟨by rfl, ?ye18⟩) (Fr.refl _ _) ?re18
    case ye18 =>
      intro wq hSw
      exact step_eqi10 (x := .tmp 21) (y := .tmp 30) rfl rfl rfl (decide_eq_true rfl)
    try simp only [Act.put, List.setIfInBounds_toArray, List.set_cons_zero, List.set_cons_succ]
    refine wpAnyH_take (i := 19) (oi := ⟨some 6, _, _, _, _, _⟩) (v := ?ve19) rfl (by kernel_rfl) (by kernel_rfl) (by kernel_rfl) (fun _ _ _ h => h) (Or.inl ⟨by rfl, ?ye19⟩) (Fr.refl _ _) ?re19
    case ye19 =>
      intro wq hSw
      (try dsimp only at hSw)
      first | (go_simp; done) | (go_simp; with_reducible rfl)
    try simp only [Act.put, List.setIfInBounds_toArray, List.set_cons_zero, List.set_cons_succ]
    refine wpAnyH_done (by kernel_rfl) ?_ _
    go_wp2_with fail
    go_ret
    exact ⟨_, Sw5, rfl, Pw5.out.mono (by omega), SZ.out.on (fun x => write_n10 x _ _), (((Nw3.out.below ((Below.drew HB1.out).trans (Zw2.out.mono HB1.out.size))).later Zw4.out)).trans Nw5.out⟩
  by_cases k2 : kind = 2
  · subst k2
    clear q6 Q6
    go_enter Try.func11, Try.ntmps11
    go_wp2_with fail
    rw [← Hw1.out]
    go_wp2_with fail
    refine wp_region_held_drew (S := fun w' => Fr (fun b => S b ∨ w1.heap.size ≤ b) w1.drew w') (by kernel_rfl) (Fr.refl _ _) (fun hHeld => ?_)
    clear hHeld
    refine wpAnyH_take (i := 0) (oi := ⟨some 13, _, _, _, _, _⟩) (v := ?vg0) rfl (by kernel_rfl) (by kernel_rfl) (by kernel_rfl) (fun _ _ _ h => h) (Or.inl ⟨by rfl, ?yg0⟩) (Fr.refl _ _) ?rg0
    case yg0 =>
      intro wq hSw
      (try dsimp only at hSw)
      first | (go_simp; done) | (go_simp; with_reducible rfl)
    try simp only [Act.put, List.setIfInBounds_toArray, List.set_cons_zero, List.set_cons_succ]
    refine wpAnyH_take (i := 1) (oi := ⟨some 14, _, _, _, _, _⟩) (v := ?vg1) rfl (by kernel_rfl) (by kernel_rfl) (by kernel_rfl) (fun _ _ _ h => h) (Or.inl ⟨by rfl, ?yg1⟩) (Fr.refl _ _) ?rg1
    case yg1 =>
      intro wq hSw
      (try dsimp only at hSw)
      first | (go_simp; done) | (go_simp; with_reducible rfl)
    try simp only [Act.put, List.setIfInBounds_toArray, List.set_cons_zero, List.set_cons_succ]
    refine wpAnyH_take (i := 2) (oi := ⟨some 15, _, _, _, _, _⟩) (v := ?vg2) rfl (by kernel_rfl) (by kernel_rfl) (by kernel_rfl) (fun _ _ _ h => h) (Or.inl ⟨by rfl, ?yg2⟩) (Fr.refl _ _) ?rg2
    case yg2 =>
      intro wq hSw
      (try dsimp only at hSw)
      have hq := hSw.cell_some Q1.out NB.out
      first | (go_simp; done) | (go_simp; with_reducible rfl)
    try simp only [Act.put, List.setIfInBounds_toArray, List.set_cons_zero, List.set_cons_succ]
    refine wpAnyH_take (i := 3) (oi := ⟨some 16, _, _, _, _, _⟩) (v := ?vg3) rfl (by kernel_rfl) (by kernel_rfl) (by kernel_rfl) (fun _ _ _ h => h) (Or.inl ⟨by rfl, ?yg3⟩) (Fr.refl _ _) ?rg3
    case yg3 =>
      intro wq hSw
      (try dsimp only at hSw)
      first | (go_simp; done) | (go_simp; with_reducible rfl)
    try simp only [Act.put, List.setIfInBounds_toArray, List.set_cons_zero, List.set_cons_succ]
    refine wpAnyH_take (i := 4) (oi := ⟨some 17, _, _, _, _, _⟩) (v := ?vg4) rfl (by kernel_rfl) (by kernel_rfl) (by kernel_rfl) (fun _ _ _ h => h) (Or.inl ⟨by rfl, ?yg4⟩) (Fr.refl _ _) ?rg4
    case yg4 =>
      intro wq hSw
      (try dsimp only at hSw)
      have hq := hSw.cell_some Q2.out NB.out
      first | (go_simp; done) | (go_simp; with_reducible rfl)
    try simp only [Act.put, List.setIfInBounds_toArray, List.set_cons_zero, List.set_cons_succ]
    refine wpAnyH_take (i := 5) (oi := ⟨some 18, _, _, _, _, _⟩) (v := ?vg5) rfl (by kernel_rfl) (by kernel_rfl) (by kernel_rfl) (fun _ _ _ h => h) (Or.inl ⟨by rfl, ?yg5⟩) (Fr.refl _ _) ?rg5
    case yg5 =>
      intro wq hSw
      (try dsimp only at hSw)
      first | (go_simp; done) | (go_simp; with_reducible rfl)
    try simp only [Act.put, List.setIfInBounds_toArray, List.set_cons_zero, List.set_cons_succ]
    refine wpAnyH_take (i := 6) (oi := ⟨some 19, _, _, _, _, _⟩) (v := ?vg6) rfl (by kernel_rfl) (by kernel_rfl) (by kernel_rfl) (fun _ _ _ h => h) (Or.inl ⟨by rfl, ?yg6⟩) (Fr.refl _ _) ?rg6
    case yg6 =>
      intro wq hSw
      (try dsimp only at hSw)
      have hq := hSw.cell_some Q4.out NB.out
      first | (go_simp; done) | (go_simp; with_reducible rfl)
    try simp only [Act.put, List.setIfInBounds_toArray, List.set_cons_zero, List.set_cons_succ]
    refine wpAnyH_take (i := 9) (oi := ⟨some 22, _, _, _, _, _⟩) (v := ?vg9) rfl (by kernel_rfl) (by kernel_rfl) (by kernel_rfl) (fun _ _ _ h => h) (Or.inl ⟨by rfl, ?yg9⟩) (Fr.refl _ _) ?rg9
    case yg9 =>
      intro wq hSw
      (try dsimp only at hSw)
      first | (go_simp; done) | (go_simp; with_reducible rfl)
    try simp only [Act.put, List.setIfInBounds_toArray, List.set_cons_zero, List.set_cons_succ]
    refine wpAnyH_take (i := 10) (oi := ⟨some 23, _, _, _, _, _⟩) (v := ?vg10) rfl (by kernel_rfl) (by kernel_rfl) (by kernel_rfl) (fun _ _ _ h => h) (Or.inl ⟨by rfl, ?yg10⟩) (Fr.refl _ _) ?rg10
    case yg10 =>
      intro wq hSw
      (try dsimp only at hSw)
      first | (go_simp; done) | (go_simp; with_reducible rfl)
    try simp only [Act.put, List.setIfInBounds_toArray, List.set_cons_zero, List.set_cons_succ]
    refine wpAnyH_take (i := 11) (oi := ⟨some 24, _, _, _, _, _⟩) (v := ?vg11) rfl (by kernel_rfl) (by kernel_rfl) (by kernel_rfl) (fun _ _ _ h => h) (Or.inl ⟨by rfl, ?yg11⟩) (Fr.refl _ _) ?rg11
    case yg11 =>
      intro wq hSw
      (try dsimp only at hSw)
      have hq := hSw.cell_some Q1.out NB.out
      first | (go_simp; done) | (go_simp; with_reducible rfl)
    try simp only [Act.put, List.setIfInBounds_toArray, List.set_cons_zero, List.set_cons_succ]
    refine wpAnyH_take (i := 12) (oi := ⟨some 25, _, _, _, _, _⟩) (v := ?vg12) rfl (by kernel_rfl) (by kernel_rfl) (by kernel_rfl) (fun _ _ _ h => h) (Or.inl ⟨by rfl, ?yg12⟩) (Fr.refl _ _) ?rg12
    case yg12 =>
      intro wq hSw
      (try dsimp only at hSw)
      first | (go_simp; done) | (go_simp; with_reducible rfl)
    try simp only [Act.put, List.setIfInBounds_toArray, List.set_cons_zero, List.set_cons_succ]
    refine wpAnyH_take (i := 13) (oi := ⟨some 26, _, _, _, _, _⟩) (v := ?vg13) rfl (by kernel_rfl) (by kernel_rfl) (by kernel_rfl) (fun _ _ _ h => h) (Or.inl ⟨by rfl, ?yg13⟩) (Fr.refl _ _) ?rg13
    case yg13 =>
      intro wq hSw
      (try dsimp only at hSw)
      have hq := hSw.cell_some Q2.out NB.out
      first | (go_simp; done) | (go_simp; with_reducible rfl)
    try simp only [Act.put, List.setIfInBounds_toArray, List.set_cons_zero, List.set_cons_succ]
    refine wpAnyH_take (i := 14) (oi := ⟨some 27, _, _, _, _, _⟩) (v := ?vg14) rfl (by kernel_rfl) (by kernel_rfl) (by kernel_rfl) (fun _ _ _ h => h) (Or.inl ⟨by rfl, ?yg14⟩) (Fr.refl _ _) ?rg14
    case yg14 =>
      intro wq hSw
      (try dsimp only at hSw)
      first | (go_simp; done) | (go_simp; with_reducible rfl)
    try simp only [Act.put, List.setIfInBounds_toArray, List.set_cons_zero, List.set_cons_succ]
    refine wpAnyH_take (i := 15) (oi := ⟨some 28, _, _, _, _, _⟩) (v := ?vg15) rfl (by kernel_rfl) (by kernel_rfl) (by kernel_rfl) (fun _ _ _ h => h) (Or.inl ⟨by rfl, ?yg15⟩) (Fr.refl _ _) ?rg15
    case yg15 =>
      intro wq hSw
      (try dsimp only at hSw)
      have hq := hSw.cell_some Q4.out NB.out
      first | (go_simp; done) | (go_simp; with_reducible rfl)
    try simp only [Act.put, List.setIfInBounds_toArray, List.set_cons_zero, List.set_cons_succ]
    refine wpAnyH_ready (rs := [7]) (by kernel_rfl) (by simp) ?_
    refine AllReadyH.cons (o := ⟨some 20, _, _, _, _, _⟩) rfl (fun K hK => ?_) AllReadyH.nil
    go_simp
    refine (full10 _ c rfl _).mono ?_; rintro e w2 ⟨Aw2, cw2, rfl, hs, hb, -⟩
    have Pw2 := Lib.hid (P1.out.later DK hb)
    have Sw2 := Lib.hid hs
    have Zw2 := Lib.hid hb
    have hfr := Fr.of_below (S := fun b => S b ∨ w1.heap.size ≤ b) hb
    clear hs hb
    go_wp2_with fail
    refine hK.out _ _ hfr (fun hHeld => ?_)
    clear hK K hHeld
    try simp only [Act.put, List.setIfInBounds_toArray, List.set_cons_zero, List.set_cons_succ]
    refine wpAnyH_re (S' := fun w' => Fr (fun b => S b ∨ w1.heap.size ≤ b) w2 w') (fun w' h => hfr.trans h) ?_
    clear hfr
    refine wpAnyH_ready (rs := [8]) (by kernel_rfl) (by simp) ?_
    refine AllReadyH.cons (o := ⟨some 21, _, _, _, _, _⟩) rfl (fun K hK => ?_) AllReadyH.nil
    go_simp
    refine (Pw2.out.dwrite DK (by omega) d at_ Aw2 64 cw2 (full c) HA.out.at1 HA.out.at2 Sw2.out).mono ?_; rintro e w3 ⟨rfl, Sw3, hp, hn⟩
    have Pw3 := Lib.hid hp
    have Nw3 := Lib.hid hn
    have hfr := hn.1.mono (fun b hb => (show S b ∨ w1.heap.size ≤ b from .inl hb))
    clear hp hn
    go_wp2_with fail
    refine hK.out _ _ hfr (fun hHeld => ?_)
    clear hK K hHeld
    try simp only [Act.put, List.setIfInBounds_toArray, List.set_cons_zero, List.set_cons_succ]
    refine wpAnyH_re (S' := fun w' => Fr (fun b => S b ∨ w1.heap.size ≤ b) w3 w') (fun w' h => hfr.trans h) ?_
    clear hfr
    refine wpAnyH_ready (rs := [16]) (by kernel_rfl) (by simp) ?_
    refine AllReadyH.cons (o := ⟨some 29, _, _, _, _, _⟩) rfl (fun K hK => ?_) AllReadyH.nil
    go_simp
    refine (full10 _ c rfl _).mono ?_; rintro e w4 ⟨Aw4, cw4, rfl, hs, hb, -⟩
    have Pw4 := Lib.hid (Pw3.out.later DK hb)
    have Sw4 := Lib.hid hs
    have Zw4 := Lib.hid hb
    have hfr := Fr.of_below (S := fun b => S b ∨ w1.heap.size ≤ b) hb
    clear hs hb
    go_wp2_with fail
    refine hK.out _ _ hfr (fun hHeld => ?_)
    clear hK K hHeld
    try simp only [Act.put, List.setIfInBounds_toArray, List.set_cons_zero, List.set_cons_succ]
    refine wpAnyH_re (S' := fun w' => Fr (fun b => S b ∨ w1.heap.size ≤ b) w4 w') (fun w' h => hfr.trans h) ?_
    clear hfr
    refine wpAnyH_ready (rs := [17]) (by kernel_rfl) (by simp) ?_
    refine AllReadyH.cons (o := ⟨some 30, _, _, _, _, _⟩) rfl (fun K hK => ?_) AllReadyH.nil
    go_simp
    refine (Pw4.out.xwrite DK (by omega) d at_ Aw4 64 cw4 (full c) HA.out.at1 HA.out.at2 Sw4.out).mono ?_; rintro e w5 ⟨rfl, Sw5, hp, hn⟩
    have Pw5 := Lib.hid hp
    have Nw5 := Lib.hid hn
    have hfr := hn.1.mono (fun b hb => (show S b ∨ w1.heap.size ≤ b from (Nw3.out.2 b hb).imp id (fun q => by have := Zw2.out.size; have : w1.drew.heap.size = w1.heap.size := rfl; omega)))
    clear hp hn
    go_wp2_with fail
    refine hK.out _ _ hfr (fun hHeld => ?_)
    clear hK K hHeld
    try simp only [Act.put, List.setIfInBounds_toArray, List.set_cons_zero, List.set_cons_succ]
    refine wpAnyH_re (S' := fun w' => Fr (fun b => S b ∨ w1.heap.size ≤ b) w5 w') (fun w' h => hfr.trans h) ?_
    clear hfr
    refine wpAnyH_take (i := 18) (oi := ⟨some 31, _, _, _, _, _⟩) (v := (.bool true)) rfl (by kernel_rfl) (by kernel_rfl) (by kernel_rfl) (fun _ _ _ h => h) (Or.inl ⟨by rfl, ?yg18⟩) (Fr.refl _ _) ?rg18
    case yg18 =>
      intro wq hSw
      exact step_eqi10 (x := .tmp 21) (y := .tmp 30) rfl rfl rfl (decide_eq_true rfl)
    try simp only [Act.put, List.setIfInBounds_toArray, List.set_cons_zero, List.set_cons_succ]
    refine wpAnyH_take (i := 19) (oi := ⟨some 6, _, _, _, _, _⟩) (v := ?vg19) rfl (by kernel_rfl) (by kernel_rfl) (by kernel_rfl) (fun _ _ _ h => h) (Or.inl ⟨by rfl, ?yg19⟩) (Fr.refl _ _) ?rg19
    case yg19 =>
      intro wq hSw
      (try dsimp only at hSw)
      first | (go_simp; done) | (go_simp; with_reducible rfl)
    try simp only [Act.put, List.setIfInBounds_toArray, List.set_cons_zero, List.set_cons_succ]
    refine wpAnyH_done (by kernel_rfl) ?_ _
    go_wp2_with fail
    go_ret
    exact ⟨_, Sw5, rfl, Pw5.out.mono (by omega), SZ.out.on (fun x => write_n10 x _ _), (((Nw3.out.below ((Below.drew HB1.out).trans (Zw2.out.mono HB1.out.size))).later Zw4.out)).trans Nw5.out⟩
  by_cases k3 : kind = 3
  · subst k3
    clear q6 Q6
    go_enter Try.func11, Try.ntmps11
    go_wp2_with fail
    rw [← Hw1.out]
    go_wp2_with fail
    refine (P0.out.dflush DK (by omega)).mono ?_; rintro e w3 ⟨rfl, S3, hp, hn⟩
    have P3 := Lib.hid hp
    have N3 := Lib.hid hn
    clear hp hn
    go_wp2_with fail
    refine (P3.out.xflush DK (by omega)).mono ?_; rintro e w5 ⟨rfl, S5, hp, hn⟩
    have P5 := Lib.hid hp
    have N5 := Lib.hid hn
    clear hp hn
    go_wp2_with fail
    go_ret
    exact ⟨_, S5, rfl, P5.out.mono (by omega), SZ.out.up (fun i x => flush_n10 x), (N3.out.below HB1.out).trans N5.out⟩
  by_cases k4 : kind = 4
  · subst k4
    go_enter Try.func11, Try.ntmps11
    go_wp2_with fail
    rw [← Hw1.out]
    go_wp2_with fail
    refine (P0.out.dcrash DK (by omega) HA.out.ks).mono ?_; rintro e w3 ⟨rfl, S3, hp, hn⟩
    have P3 := Lib.hid hp
    have N3 := Lib.hid hn
    have q6' := hn.1.cell_some Q6.out NS.out
    clear q6
    clear hp hn
    go_wp2_with fail
    refine (P3.out.xcrash DK (by omega) HA.out.ks).mono ?_; rintro e w5 ⟨rfl, S5, hp, hn⟩
    have P5 := Lib.hid hp
    have N5 := Lib.hid hn
    clear hp hn
    go_wp2_with fail
    go_ret
    exact ⟨_, S5, rfl, P5.out.mono (by omega), SZ.out.up (fun i x => Dv.crash_n _), (N3.out.below HB1.out).trans N5.out⟩
  by_cases k5 : kind = 5
  · subst k5
    clear q6 Q6
    go_enter Try.func11, Try.ntmps11
    go_wp2_with fail
    rw [← Hw1.out]
    go_wp2_with fail
    refine wp_region_held_drew (S := fun w' => Fr (fun b => S b ∨ w1.heap.size ≤ b) w1.drew w') (by kernel_rfl) (Fr.refl _ _) (fun hHeld => ?_)
    clear hHeld
    refine wpAnyH_take (i := 0) (oi := ⟨some 51, _, _, _, _, _⟩) (v := ?vh0) rfl (by kernel_rfl) (by kernel_rfl) (by kernel_rfl) (fun _ _ _ h => h) (Or.inl ⟨by rfl, ?yh0⟩) (Fr.refl _ _) ?rh0
    case yh0 =>
      intro wq hSw
      (try dsimp only at hSw)
      first | (go_simp; done) | (go_simp; with_reducible rfl)
    try simp only [Act.put, List.setIfInBounds_toArray, List.set_cons_zero, List.set_cons_succ]
    refine wpAnyH_take (i := 1) (oi := ⟨some 52, _, _, _, _, _⟩) (v := ?vh1) rfl (by kernel_rfl) (by kernel_rfl) (by kernel_rfl) (fun _ _ _ h => h) (Or.inl ⟨by rfl, ?yh1⟩) (Fr.refl _ _) ?rh1
    case yh1 =>
      intro wq hSw
      (try dsimp only at hSw)
      first | (go_simp; done) | (go_simp; with_reducible rfl)
    try simp only [Act.put, List.setIfInBounds_toArray, List.set_cons_zero, List.set_cons_succ]
    refine wpAnyH_take (i := 2) (oi := ⟨some 53, _, _, _, _, _⟩) (v := ?vh2) rfl (by kernel_rfl) (by kernel_rfl) (by kernel_rfl) (fun _ _ _ h => h) (Or.inl ⟨by rfl, ?yh2⟩) (Fr.refl _ _) ?rh2
    case yh2 =>
      intro wq hSw
      (try dsimp only at hSw)
      have hq := hSw.cell_some Q1.out NB.out
      first | (go_simp; done) | (go_simp; with_reducible rfl)
    try simp only [Act.put, List.setIfInBounds_toArray, List.set_cons_zero, List.set_cons_succ]
    refine wpAnyH_take (i := 4) (oi := ⟨some 55, _, _, _, _, _⟩) (v := ?vh4) rfl (by kernel_rfl) (by kernel_rfl) (by kernel_rfl) (fun _ _ _ h => h) (Or.inl ⟨by rfl, ?yh4⟩) (Fr.refl _ _) ?rh4
    case yh4 =>
      intro wq hSw
      (try dsimp only at hSw)
      first | (go_simp; done) | (go_simp; with_reducible rfl)
    try simp only [Act.put, List.setIfInBounds_toArray, List.set_cons_zero, List.set_cons_succ]
    refine wpAnyH_take (i := 5) (oi := ⟨some 56, _, _, _, _, _⟩) (v := ?vh5) rfl (by kernel_rfl) (by kernel_rfl) (by kernel_rfl) (fun _ _ _ h => h) (Or.inl ⟨by rfl, ?yh5⟩) (Fr.refl _ _) ?rh5
    case yh5 =>
      intro wq hSw
      (try dsimp only at hSw)
      first | (go_simp; done) | (go_simp; with_reducible rfl)
    try simp only [Act.put, List.setIfInBounds_toArray, List.set_cons_zero, List.set_cons_succ]
    refine wpAnyH_take (i := 6) (oi := ⟨some 57, _, _, _, _, _⟩) (v := ?vh6) rfl (by kernel_rfl) (by kernel_rfl) (by kernel_rfl) (fun _ _ _ h => h) (Or.inl ⟨by rfl, ?yh6⟩) (Fr.refl _ _) ?rh6
    case yh6 =>
      intro wq hSw
      (try dsimp only at hSw)
      have hq := hSw.cell_some Q1.out NB.out
      first | (go_simp; done) | (go_simp; with_reducible rfl)
    try simp only [Act.put, List.setIfInBounds_toArray, List.set_cons_zero, List.set_cons_succ]
    refine wpAnyH_ready (rs := [3]) (by kernel_rfl) (by simp) ?_
    refine AllReadyH.cons (o := ⟨some 54, _, _, _, _, _⟩) rfl (fun K hK => ?_) AllReadyH.nil
    go_simp
    refine (P1.out.dfail DK (by omega) d).mono ?_; rintro e w3 ⟨rfl, Sw3, hp, hn⟩
    have Pw3 := Lib.hid hp
    have Nw3 := Lib.hid hn
    have hfr := hn.1.mono (fun b hb => (show S b ∨ w1.heap.size ≤ b from .inl hb))
    clear hp hn
    go_wp2_with fail
    refine hK.out _ _ hfr (fun hHeld => ?_)
    clear hK K hHeld
    try simp only [Act.put, List.setIfInBounds_toArray, List.set_cons_zero, List.set_cons_succ]
    refine wpAnyH_re (S' := fun w' => Fr (fun b => S b ∨ w1.heap.size ≤ b) w3 w') (fun w' h => hfr.trans h) ?_
    clear hfr
    refine wpAnyH_ready (rs := [7]) (by kernel_rfl) (by simp) ?_
    refine AllReadyH.cons (o := ⟨some 58, _, _, _, _, _⟩) rfl (fun K hK => ?_) AllReadyH.nil
    go_simp
    refine (Pw3.out.xfail DK (by omega) d).mono ?_; rintro e w5 ⟨rfl, Sw5, hp, hn⟩
    have Pw5 := Lib.hid hp
    have Nw5 := Lib.hid hn
    have hfr := hn.1.mono (fun b hb => (show S b ∨ w1.heap.size ≤ b from (Nw3.out.2 b hb).imp id (fun q => q)))
    clear hp hn
    go_wp2_with fail
    refine hK.out _ _ hfr (fun hHeld => ?_)
    clear hK K hHeld
    try simp only [Act.put, List.setIfInBounds_toArray, List.set_cons_zero, List.set_cons_succ]
    refine wpAnyH_re (S' := fun w' => Fr (fun b => S b ∨ w1.heap.size ≤ b) w5 w') (fun w' h => hfr.trans h) ?_
    clear hfr
    refine wpAnyH_take (i := 8) (oi := ⟨some 59, _, _, _, _, _⟩) (v := (.bool true)) rfl (by kernel_rfl) (by kernel_rfl) (by kernel_rfl) (fun _ _ _ h => h) (Or.inl ⟨by rfl, ?yh8⟩) (Fr.refl _ _) ?rh8
    case yh8 =>
      intro wq hSw
      exact step_eqi10 (x := .tmp 54) (y := .tmp 58) rfl rfl rfl (decide_eq_true rfl)
    try simp only [Act.put, List.setIfInBounds_toArray, List.set_cons_zero, List.set_cons_succ]
    refine wpAnyH_take (i := 9) (oi := ⟨some 6, _, _, _, _, _⟩) (v := ?vh9) rfl (by kernel_rfl) (by kernel_rfl) (by kernel_rfl) (fun _ _ _ h => h) (Or.inl ⟨by rfl, ?yh9⟩) (Fr.refl _ _) ?rh9
    case yh9 =>
      intro wq hSw
      (try dsimp only at hSw)
      first | (go_simp; done) | (go_simp; with_reducible rfl)
    try simp only [Act.put, List.setIfInBounds_toArray, List.set_cons_zero, List.set_cons_succ]
    refine wpAnyH_done (by kernel_rfl) ?_ _
    go_wp2_with fail
    go_ret
    exact ⟨_, Sw5, rfl, Pw5.out.mono (by omega), SZ.out.on (fun x => fail_n10 x), (Nw3.out.below (Below.drew HB1.out)).trans Nw5.out⟩
  by_cases k6 : kind = 6
  · subst k6
    clear q6 Q6
    go_enter Try.func11, Try.ntmps11
    go_wp2_with fail
    rw [← Hw1.out]
    go_wp2_with fail
    refine wp_region_held_drew (S := fun w' => Fr (fun b => S b ∨ w1.heap.size ≤ b) w1.drew w') (by kernel_rfl) (Fr.refl _ _) (fun hHeld => ?_)
    clear hHeld
    refine wpAnyH_take (i := 0) (oi := ⟨some 62, _, _, _, _, _⟩) (v := ?vi0) rfl (by kernel_rfl) (by kernel_rfl) (by kernel_rfl) (fun _ _ _ h => h) (Or.inl ⟨by rfl, ?yi0⟩) (Fr.refl _ _) ?ri0
    case yi0 =>
      intro wq hSw
      (try dsimp only at hSw)
      first | (go_simp; done) | (go_simp; with_reducible rfl)
    try simp only [Act.put, List.setIfInBounds_toArray, List.set_cons_zero, List.set_cons_succ]
    refine wpAnyH_take (i := 1) (oi := ⟨some 63, _, _, _, _, _⟩) (v := ?vi1) rfl (by kernel_rfl) (by kernel_rfl) (by kernel_rfl) (fun _ _ _ h => h) (Or.inl ⟨by rfl, ?yi1⟩) (Fr.refl _ _) ?ri1
    case yi1 =>
      intro wq hSw
      (try dsimp only at hSw)
      first | (go_simp; done) | (go_simp; with_reducible rfl)
    try simp only [Act.put, List.setIfInBounds_toArray, List.set_cons_zero, List.set_cons_succ]
    refine wpAnyH_take (i := 2) (oi := ⟨some 64, _, _, _, _, _⟩) (v := ?vi2) rfl (by kernel_rfl) (by kernel_rfl) (by kernel_rfl) (fun _ _ _ h => h) (Or.inl ⟨by rfl, ?yi2⟩) (Fr.refl _ _) ?ri2
    case yi2 =>
      intro wq hSw
      (try dsimp only at hSw)
      have hq := hSw.cell_some Q1.out NB.out
      first | (go_simp; done) | (go_simp; with_reducible rfl)
    try simp only [Act.put, List.setIfInBounds_toArray, List.set_cons_zero, List.set_cons_succ]
    refine wpAnyH_take (i := 4) (oi := ⟨some 66, _, _, _, _, _⟩) (v := ?vi4) rfl (by kernel_rfl) (by kernel_rfl) (by kernel_rfl) (fun _ _ _ h => h) (Or.inl ⟨by rfl, ?yi4⟩) (Fr.refl _ _) ?ri4
    case yi4 =>
      intro wq hSw
      (try dsimp only at hSw)
      first | (go_simp; done) | (go_simp; with_reducible rfl)
    try simp only [Act.put, List.setIfInBounds_toArray, List.set_cons_zero, List.set_cons_succ]
    refine wpAnyH_take (i := 5) (oi := ⟨some 67, _, _, _, _, _⟩) (v := ?vi5) rfl (by kernel_rfl) (by kernel_rfl) (by kernel_rfl) (fun _ _ _ h => h) (Or.inl ⟨by rfl, ?yi5⟩) (Fr.refl _ _) ?ri5
    case yi5 =>
      intro wq hSw
      (try dsimp only at hSw)
      first | (go_simp; done) | (go_simp; with_reducible rfl)
    try simp only [Act.put, List.setIfInBounds_toArray, List.set_cons_zero, List.set_cons_succ]
    refine wpAnyH_take (i := 6) (oi := ⟨some 68, _, _, _, _, _⟩) (v := ?vi6) rfl (by kernel_rfl) (by kernel_rfl) (by kernel_rfl) (fun _ _ _ h => h) (Or.inl ⟨by rfl, ?yi6⟩) (Fr.refl _ _) ?ri6
    case yi6 =>
      intro wq hSw
      (try dsimp only at hSw)
      have hq := hSw.cell_some Q1.out NB.out
      first | (go_simp; done) | (go_simp; with_reducible rfl)
    try simp only [Act.put, List.setIfInBounds_toArray, List.set_cons_zero, List.set_cons_succ]
    refine wpAnyH_ready (rs := [3]) (by kernel_rfl) (by simp) ?_
    refine AllReadyH.cons (o := ⟨some 65, _, _, _, _, _⟩) rfl (fun K hK => ?_) AllReadyH.nil
    go_simp
    refine (P1.out.dreplace DK (by omega) d).mono ?_; rintro e w3 ⟨rfl, Sw3, hp, hn⟩
    have Pw3 := Lib.hid hp
    have Nw3 := Lib.hid hn
    have hfr := hn.1.mono (fun b hb => (show S b ∨ w1.heap.size ≤ b from .inl hb))
    clear hp hn
    go_wp2_with fail
    refine hK.out _ _ hfr (fun hHeld => ?_)
    clear hK K hHeld
    try simp only [Act.put, List.setIfInBounds_toArray, List.set_cons_zero, List.set_cons_succ]
    refine wpAnyH_re (S' := fun w' => Fr (fun b => S b ∨ w1.heap.size ≤ b) w3 w') (fun w' h => hfr.trans h) ?_
    clear hfr
    refine wpAnyH_ready (rs := [7]) (by kernel_rfl) (by simp) ?_
    refine AllReadyH.cons (o := ⟨some 69, _, _, _, _, _⟩) rfl (fun K hK => ?_) AllReadyH.nil
    go_simp
    refine (Pw3.out.xreplace DK (by omega) d).mono ?_; rintro e w5 ⟨rfl, Sw5, hp, hn⟩
    have Pw5 := Lib.hid hp
    have Nw5 := Lib.hid hn
    have hfr := hn.1.mono (fun b hb => (show S b ∨ w1.heap.size ≤ b from (Nw3.out.2 b hb).imp id (fun q => q)))
    clear hp hn
    go_wp2_with fail
    refine hK.out _ _ hfr (fun hHeld => ?_)
    clear hK K hHeld
    try simp only [Act.put, List.setIfInBounds_toArray, List.set_cons_zero, List.set_cons_succ]
    refine wpAnyH_re (S' := fun w' => Fr (fun b => S b ∨ w1.heap.size ≤ b) w5 w') (fun w' h => hfr.trans h) ?_
    clear hfr
    refine wpAnyH_take (i := 8) (oi := ⟨some 70, _, _, _, _, _⟩) (v := (.bool true)) rfl (by kernel_rfl) (by kernel_rfl) (by kernel_rfl) (fun _ _ _ h => h) (Or.inl ⟨by rfl, ?yi8⟩) (Fr.refl _ _) ?ri8
    case yi8 =>
      intro wq hSw
      exact step_eqi10 (x := .tmp 65) (y := .tmp 69) rfl rfl rfl (decide_eq_true rfl)
    try simp only [Act.put, List.setIfInBounds_toArray, List.set_cons_zero, List.set_cons_succ]
    refine wpAnyH_take (i := 9) (oi := ⟨some 6, _, _, _, _, _⟩) (v := ?vi9) rfl (by kernel_rfl) (by kernel_rfl) (by kernel_rfl) (fun _ _ _ h => h) (Or.inl ⟨by rfl, ?yi9⟩) (Fr.refl _ _) ?ri9
    case yi9 =>
      intro wq hSw
      (try dsimp only at hSw)
      first | (go_simp; done) | (go_simp; with_reducible rfl)
    try simp only [Act.put, List.setIfInBounds_toArray, List.set_cons_zero, List.set_cons_succ]
    refine wpAnyH_done (by kernel_rfl) ?_ _
    go_wp2_with fail
    go_ret
    exact ⟨_, Sw5, rfl, Pw5.out.mono (by omega), SZ.out.on (fun x => Dv.new_n _), (Nw3.out.below (Below.drew HB1.out)).trans Nw5.out⟩
  by_cases k7 : kind = 7
  · subst k7
    clear q6 Q6
    go_enter Try.func11, Try.ntmps11
    go_wp2_with fail
    rw [← Hw1.out]
    go_wp2_with fail
    refine wp_region_held_drew (S := fun w' => Fr (fun b => S b ∨ w1.heap.size ≤ b) w1.drew w') (by kernel_rfl) (Fr.refl _ _) (fun hHeld => ?_)
    clear hHeld
    refine wpAnyH_take (i := 0) (oi := ⟨some 73, _, _, _, _, _⟩) (v := ?vj0) rfl (by kernel_rfl) (by kernel_rfl) (by kernel_rfl) (fun _ _ _ h => h) (Or.inl ⟨by rfl, ?yj0⟩) (Fr.refl _ _) ?rj0
    case yj0 =>
      intro wq hSw
      (try dsimp only at hSw)
      first | (go_simp; done) | (go_simp; with_reducible rfl)
    try simp only [Act.put, List.setIfInBounds_toArray, List.set_cons_zero, List.set_cons_succ]
    refine wpAnyH_take (i := 1) (oi := ⟨some 74, _, _, _, _, _⟩) (v := ?vj1) rfl (by kernel_rfl) (by kernel_rfl) (by kernel_rfl) (fun _ _ _ h => h) (Or.inl ⟨by rfl, ?yj1⟩) (Fr.refl _ _) ?rj1
    case yj1 =>
      intro wq hSw
      (try dsimp only at hSw)
      first | (go_simp; done) | (go_simp; with_reducible rfl)
    try simp only [Act.put, List.setIfInBounds_toArray, List.set_cons_zero, List.set_cons_succ]
    refine wpAnyH_take (i := 2) (oi := ⟨some 75, _, _, _, _, _⟩) (v := ?vj2) rfl (by kernel_rfl) (by kernel_rfl) (by kernel_rfl) (fun _ _ _ h => h) (Or.inl ⟨by rfl, ?yj2⟩) (Fr.refl _ _) ?rj2
    case yj2 =>
      intro wq hSw
      (try dsimp only at hSw)
      have hq := hSw.cell_some Q1.out NB.out
      first | (go_simp; done) | (go_simp; with_reducible rfl)
    try simp only [Act.put, List.setIfInBounds_toArray, List.set_cons_zero, List.set_cons_succ]
    refine wpAnyH_take (i := 3) (oi := ⟨some 76, _, _, _, _, _⟩) (v := ?vj3) rfl (by kernel_rfl) (by kernel_rfl) (by kernel_rfl) (fun _ _ _ h => h) (Or.inl ⟨by rfl, ?yj3⟩) (Fr.refl _ _) ?rj3
    case yj3 =>
      intro wq hSw
      (try dsimp only at hSw)
      first | (go_simp; done) | (go_simp; with_reducible rfl)
    try simp only [Act.put, List.setIfInBounds_toArray, List.set_cons_zero, List.set_cons_succ]
    refine wpAnyH_take (i := 4) (oi := ⟨some 77, _, _, _, _, _⟩) (v := ?vj4) rfl (by kernel_rfl) (by kernel_rfl) (by kernel_rfl) (fun _ _ _ h => h) (Or.inl ⟨by rfl, ?yj4⟩) (Fr.refl _ _) ?rj4
    case yj4 =>
      intro wq hSw
      (try dsimp only at hSw)
      have hq := hSw.cell_some Q2.out NB.out
      first | (go_simp; done) | (go_simp; with_reducible rfl)
    try simp only [Act.put, List.setIfInBounds_toArray, List.set_cons_zero, List.set_cons_succ]
    refine wpAnyH_take (i := 5) (oi := ⟨some 78, _, _, _, _, _⟩) (v := ?vj5) rfl (by kernel_rfl) (by kernel_rfl) (by kernel_rfl) (fun _ _ _ h => h) (Or.inl ⟨by rfl, ?yj5⟩) (Fr.refl _ _) ?rj5
    case yj5 =>
      intro wq hSw
      (try dsimp only at hSw)
      first | (go_simp; done) | (go_simp; with_reducible rfl)
    try simp only [Act.put, List.setIfInBounds_toArray, List.set_cons_zero, List.set_cons_succ]
    refine wpAnyH_take (i := 6) (oi := ⟨some 79, _, _, _, _, _⟩) (v := ?vj6) rfl (by kernel_rfl) (by kernel_rfl) (by kernel_rfl) (fun _ _ _ h => h) (Or.inl ⟨by rfl, ?yj6⟩) (Fr.refl _ _) ?rj6
    case yj6 =>
      intro wq hSw
      (try dsimp only at hSw)
      have hq := hSw.cell_some Q3.out NB.out
      first | (go_simp; done) | (go_simp; with_reducible rfl)
    try simp only [Act.put, List.setIfInBounds_toArray, List.set_cons_zero, List.set_cons_succ]
    refine wpAnyH_take (i := 7) (oi := ⟨some 80, _, _, _, _, _⟩) (v := ?vj7) rfl (by kernel_rfl) (by kernel_rfl) (by kernel_rfl) (fun _ _ _ h => h) (Or.inl ⟨by rfl, ?yj7⟩) (Fr.refl _ _) ?rj7
    case yj7 =>
      intro wq hSw
      (try dsimp only at hSw)
      first | (go_simp; done) | (go_simp; with_reducible rfl)
    try simp only [Act.put, List.setIfInBounds_toArray, List.set_cons_zero, List.set_cons_succ]
    refine wpAnyH_take (i := 8) (oi := ⟨some 81, _, _, _, _, _⟩) (v := ?vj8) rfl (by kernel_rfl) (by kernel_rfl) (by kernel_rfl) (fun _ _ _ h => h) (Or.inl ⟨by rfl, ?yj8⟩) (Fr.refl _ _) ?rj8
    case yj8 =>
      intro wq hSw
      (try dsimp only at hSw)
      have hq := hSw.cell_some Q5.out NB.out
      first | (go_simp; done) | (go_simp; with_reducible rfl)
    try simp only [Act.put, List.setIfInBounds_toArray, List.set_cons_zero, List.set_cons_succ]
    refine wpAnyH_take (i := 10) (oi := ⟨some 83, _, _, _, _, _⟩) (v := ?vj10) rfl (by kernel_rfl) (by kernel_rfl) (by kernel_rfl) (fun _ _ _ h => h) (Or.inl ⟨by rfl, ?yj10⟩) (Fr.refl _ _) ?rj10
    case yj10 =>
      intro wq hSw
      (try dsimp only at hSw)
      first | (go_simp; done) | (go_simp; with_reducible rfl)
    try simp only [Act.put, List.setIfInBounds_toArray, List.set_cons_zero, List.set_cons_succ]
    refine wpAnyH_take (i := 11) (oi := ⟨some 84, _, _, _, _, _⟩) (v := ?vj11) rfl (by kernel_rfl) (by kernel_rfl) (by kernel_rfl) (fun _ _ _ h => h) (Or.inl ⟨by rfl, ?yj11⟩) (Fr.refl _ _) ?rj11
    case yj11 =>
      intro wq hSw
      (try dsimp only at hSw)
      first | (go_simp; done) | (go_simp; with_reducible rfl)
    try simp only [Act.put, List.setIfInBounds_toArray, List.set_cons_zero, List.set_cons_succ]
    refine wpAnyH_take (i := 12) (oi := ⟨some 85, _, _, _, _, _⟩) (v := ?vj12) rfl (by kernel_rfl) (by kernel_rfl) (by kernel_rfl) (fun _ _ _ h => h) (Or.inl ⟨by rfl, ?yj12⟩) (Fr.refl _ _) ?rj12
    case yj12 =>
      intro wq hSw
      (try dsimp only at hSw)
      have hq := hSw.cell_some Q1.out NB.out
      first | (go_simp; done) | (go_simp; with_reducible rfl)
    try simp only [Act.put, List.setIfInBounds_toArray, List.set_cons_zero, List.set_cons_succ]
    refine wpAnyH_take (i := 13) (oi := ⟨some 86, _, _, _, _, _⟩) (v := ?vj13) rfl (by kernel_rfl) (by kernel_rfl) (by kernel_rfl) (fun _ _ _ h => h) (Or.inl ⟨by rfl, ?yj13⟩) (Fr.refl _ _) ?rj13
    case yj13 =>
      intro wq hSw
      (try dsimp only at hSw)
      first | (go_simp; done) | (go_simp; with_reducible rfl)
    try simp only [Act.put, List.setIfInBounds_toArray, List.set_cons_zero, List.set_cons_succ]
    refine wpAnyH_take (i := 14) (oi := ⟨some 87, _, _, _, _, _⟩) (v := ?vj14) rfl (by kernel_rfl) (by kernel_rfl) (by kernel_rfl) (fun _ _ _ h => h) (Or.inl ⟨by rfl, ?yj14⟩) (Fr.refl _ _) ?rj14
    case yj14 =>
      intro wq hSw
      (try dsimp only at hSw)
      have hq := hSw.cell_some Q2.out NB.out
      first | (go_simp; done) | (go_simp; with_reducible rfl)
    try simp only [Act.put, List.setIfInBounds_toArray, List.set_cons_zero, List.set_cons_succ]
    refine wpAnyH_take (i := 15) (oi := ⟨some 88, _, _, _, _, _⟩) (v := ?vj15) rfl (by kernel_rfl) (by kernel_rfl) (by kernel_rfl) (fun _ _ _ h => h) (Or.inl ⟨by rfl, ?yj15⟩) (Fr.refl _ _) ?rj15
    case yj15 =>
      intro wq hSw
      (try dsimp only at hSw)
      first | (go_simp; done) | (go_simp; with_reducible rfl)
    try simp only [Act.put, List.setIfInBounds_toArray, List.set_cons_zero, List.set_cons_succ]
    refine wpAnyH_take (i := 16) (oi := ⟨some 89, _, _, _, _, _⟩) (v := ?vj16) rfl (by kernel_rfl) (by kernel_rfl) (by kernel_rfl) (fun _ _ _ h => h) (Or.inl ⟨by rfl, ?yj16⟩) (Fr.refl _ _) ?rj16
    case yj16 =>
      intro wq hSw
      (try dsimp only at hSw)
      have hq := hSw.cell_some Q3.out NB.out
      first | (go_simp; done) | (go_simp; with_reducible rfl)
    try simp only [Act.put, List.setIfInBounds_toArray, List.set_cons_zero, List.set_cons_succ]
    refine wpAnyH_take (i := 17) (oi := ⟨some 90, _, _, _, _, _⟩) (v := ?vj17) rfl (by kernel_rfl) (by kernel_rfl) (by kernel_rfl) (fun _ _ _ h => h) (Or.inl ⟨by rfl, ?yj17⟩) (Fr.refl _ _) ?rj17
    case yj17 =>
      intro wq hSw
      (try dsimp only at hSw)
      first | (go_simp; done) | (go_simp; with_reducible rfl)
    try simp only [Act.put, List.setIfInBounds_toArray, List.set_cons_zero, List.set_cons_succ]
    refine wpAnyH_take (i := 18) (oi := ⟨some 91, _, _, _, _, _⟩) (v := ?vj18) rfl (by kernel_rfl) (by kernel_rfl) (by kernel_rfl) (fun _ _ _ h => h) (Or.inl ⟨by rfl, ?yj18⟩) (Fr.refl _ _) ?rj18
    case yj18 =>
      intro wq hSw
      (try dsimp only at hSw)
      have hq := hSw.cell_some Q5.out NB.out
      first | (go_simp; done) | (go_simp; with_reducible rfl)
    try simp only [Act.put, List.setIfInBounds_toArray, List.set_cons_zero, List.set_cons_succ]
    refine wpAnyH_ready (rs := [9]) (by kernel_rfl) (by simp) ?_
    refine AllReadyH.cons (o := ⟨some 82, _, _, _, _, _⟩) rfl (fun K hK => ?_) AllReadyH.nil
    go_simp
    refine (P1.out.drot DK (by omega) d at_ off mask HA.out.at1 HA.out.at2 HA.out.off1 HA.out.off2 HA.out.mask).mono ?_; rintro e w3 ⟨rfl, Sw3, hp, hn⟩
    have Pw3 := Lib.hid hp
    have Nw3 := Lib.hid hn
    have hfr := hn.1.mono (fun b hb => (show S b ∨ w1.heap.size ≤ b from .inl hb))
    clear hp hn
    go_wp2_with fail
    refine hK.out _ _ hfr (fun hHeld => ?_)
    clear hK K hHeld
    try simp only [Act.put, List.setIfInBounds_toArray, List.set_cons_zero, List.set_cons_succ]
    refine wpAnyH_re (S' := fun w' => Fr (fun b => S b ∨ w1.heap.size ≤ b) w3 w') (fun w' h => hfr.trans h) ?_
    clear hfr
    refine wpAnyH_ready (rs := [19]) (by kernel_rfl) (by simp) ?_
    refine AllReadyH.cons (o := ⟨some 92, _, _, _, _, _⟩) rfl (fun K hK => ?_) AllReadyH.nil
    go_simp
    refine (Pw3.out.xrot DK (by omega) d at_ off mask HA.out.at1 HA.out.at2 HA.out.off1 HA.out.off2 HA.out.mask).mono ?_; rintro e w5 ⟨rfl, Sw5, hp, hn⟩
    have Pw5 := Lib.hid hp
    have Nw5 := Lib.hid hn
    have hfr := hn.1.mono (fun b hb => (show S b ∨ w1.heap.size ≤ b from (Nw3.out.2 b hb).imp id (fun q => q)))
    clear hp hn
    go_wp2_with fail
    refine hK.out _ _ hfr (fun hHeld => ?_)
    clear hK K hHeld
    try simp only [Act.put, List.setIfInBounds_toArray, List.set_cons_zero, List.set_cons_succ]
    refine wpAnyH_re (S' := fun w' => Fr (fun b => S b ∨ w1.heap.size ≤ b) w5 w') (fun w' h => hfr.trans h) ?_
    clear hfr
    refine wpAnyH_take (i := 20) (oi := ⟨some 93, _, _, _, _, _⟩) (v := (.bool true)) rfl (by kernel_rfl) (by kernel_rfl) (by kernel_rfl) (fun _ _ _ h => h) (Or.inl ⟨by rfl, ?yj20⟩) (Fr.refl _ _) ?rj20
    case yj20 =>
      intro wq hSw
      exact step_eqi10 (x := .tmp 82) (y := .tmp 92) rfl rfl rfl (decide_eq_true rfl)
    try simp only [Act.put, List.setIfInBounds_toArray, List.set_cons_zero, List.set_cons_succ]
    refine wpAnyH_take (i := 21) (oi := ⟨some 6, _, _, _, _, _⟩) (v := ?vj21) rfl (by kernel_rfl) (by kernel_rfl) (by kernel_rfl) (fun _ _ _ h => h) (Or.inl ⟨by rfl, ?yj21⟩) (Fr.refl _ _) ?rj21
    case yj21 =>
      intro wq hSw
      (try dsimp only at hSw)
      first | (go_simp; done) | (go_simp; with_reducible rfl)
    try simp only [Act.put, List.setIfInBounds_toArray, List.set_cons_zero, List.set_cons_succ]
    refine wpAnyH_done (by kernel_rfl) ?_ _
    go_wp2_with fail
    go_ret
    exact ⟨_, Sw5, rfl, Pw5.out.mono (by omega), SZ.out.on (fun x => rot_n10 x _ _ _), (Nw3.out.below (Below.drew HB1.out)).trans Nw5.out⟩
  by_cases k9 : kind = 9
  · subst k9
    clear q6 Q6
    go_enter Try.func11, Try.ntmps11
    go_wp2_with fail
    rw [← Hw1.out]
    go_wp2_with fail
    refine wp_region_held_drew (S := fun w' => Fr (fun b => S b ∨ w1.heap.size ≤ b) w1.drew w') (by kernel_rfl) (Fr.refl _ _) (fun hHeld => ?_)
    clear hHeld
    refine wpAnyH_take (i := 0) (oi := ⟨some 96, _, _, _, _, _⟩) (v := ?vm0) rfl (by kernel_rfl) (by kernel_rfl) (by kernel_rfl) (fun _ _ _ h => h) (Or.inl ⟨by rfl, ?ym0⟩) (Fr.refl _ _) ?rm0
    case ym0 =>
      intro wq hSw
      (try dsimp only at hSw)
      first | (go_simp; done) | (go_simp; with_reducible rfl)
    try simp only [Act.put, List.setIfInBounds_toArray, List.set_cons_zero, List.set_cons_succ]
    refine wpAnyH_take (i := 1) (oi := ⟨some 97, _, _, _, _, _⟩) (v := ?vm1) rfl (by kernel_rfl) (by kernel_rfl) (by kernel_rfl) (fun _ _ _ h => h) (Or.inl ⟨by rfl, ?ym1⟩) (Fr.refl _ _) ?rm1
    case ym1 =>
      intro wq hSw
      (try dsimp only at hSw)
      first | (go_simp; done) | (go_simp; with_reducible rfl)
    try simp only [Act.put, List.setIfInBounds_toArray, List.set_cons_zero, List.set_cons_succ]
    refine wpAnyH_take (i := 2) (oi := ⟨some 98, _, _, _, _, _⟩) (v := ?vm2) rfl (by kernel_rfl) (by kernel_rfl) (by kernel_rfl) (fun _ _ _ h => h) (Or.inl ⟨by rfl, ?ym2⟩) (Fr.refl _ _) ?rm2
    case ym2 =>
      intro wq hSw
      (try dsimp only at hSw)
      have hq := hSw.cell_some Q2.out NB.out
      first | (go_simp; done) | (go_simp; with_reducible rfl)
    try simp only [Act.put, List.setIfInBounds_toArray, List.set_cons_zero, List.set_cons_succ]
    refine wpAnyH_take (i := 3) (oi := ⟨some 99, _, _, _, _, _⟩) (v := ?vm3) rfl (by kernel_rfl) (by kernel_rfl) (by kernel_rfl) (fun _ _ _ h => h) (Or.inl ⟨by rfl, ?ym3⟩) (Fr.refl _ _) ?rm3
    case ym3 =>
      intro wq hSw
      (try dsimp only at hSw)
      first | (go_simp; done) | (go_simp; with_reducible rfl)
    try simp only [Act.put, List.setIfInBounds_toArray, List.set_cons_zero, List.set_cons_succ]
    refine wpAnyH_take (i := 4) (oi := ⟨some 100, _, _, _, _, _⟩) (v := ?vm4) rfl (by kernel_rfl) (by kernel_rfl) (by kernel_rfl) (fun _ _ _ h => h) (Or.inl ⟨by rfl, ?ym4⟩) (Fr.refl _ _) ?rm4
    case ym4 =>
      intro wq hSw
      (try dsimp only at hSw)
      have hq := hSw.cell_some Q4.out NB.out
      first | (go_simp; done) | (go_simp; with_reducible rfl)
    try simp only [Act.put, List.setIfInBounds_toArray, List.set_cons_zero, List.set_cons_succ]
    refine wpAnyH_take (i := 5) (oi := ⟨some 101, _, _, _, _, _⟩) (v := ?vm5) rfl (by kernel_rfl) (by kernel_rfl) (by kernel_rfl) (fun _ _ _ h => h) (Or.inl ⟨by rfl, ?ym5⟩) (Fr.refl _ _) ?rm5
    case ym5 =>
      intro wq hSw
      (try dsimp only at hSw)
      first | (go_simp; done) | (go_simp; with_reducible rfl)
    try simp only [Act.put, List.setIfInBounds_toArray, List.set_cons_zero, List.set_cons_succ]
    refine wpAnyH_take (i := 6) (oi := ⟨some 102, _, _, _, _, _⟩) (v := ?vm6) rfl (by kernel_rfl) (by kernel_rfl) (by kernel_rfl) (fun _ _ _ h => h) (Or.inl ⟨by rfl, ?ym6⟩) (Fr.refl _ _) ?rm6
    case ym6 =>
      intro wq hSw
      (try dsimp only at hSw)
      have hq := hSw.cell_some Q3.out NB.out
      first | (go_simp; done) | (go_simp; with_reducible rfl)
    try simp only [Act.put, List.setIfInBounds_toArray, List.set_cons_zero, List.set_cons_succ]
    refine wpAnyH_take (i := 9) (oi := ⟨some 105, _, _, _, _, _⟩) (v := ?vm9) rfl (by kernel_rfl) (by kernel_rfl) (by kernel_rfl) (fun _ _ _ h => h) (Or.inl ⟨by rfl, ?ym9⟩) (Fr.refl _ _) ?rm9
    case ym9 =>
      intro wq hSw
      (try dsimp only at hSw)
      first | (go_simp; done) | (go_simp; with_reducible rfl)
    try simp only [Act.put, List.setIfInBounds_toArray, List.set_cons_zero, List.set_cons_succ]
    refine wpAnyH_take (i := 10) (oi := ⟨some 106, _, _, _, _, _⟩) (v := ?vm10) rfl (by kernel_rfl) (by kernel_rfl) (by kernel_rfl) (fun _ _ _ h => h) (Or.inl ⟨by rfl, ?ym10⟩) (Fr.refl _ _) ?rm10
    case ym10 =>
      intro wq hSw
      (try dsimp only at hSw)
      first | (go_simp; done) | (go_simp; with_reducible rfl)
    try simp only [Act.put, List.setIfInBounds_toArray, List.set_cons_zero, List.set_cons_succ]
    refine wpAnyH_take (i := 11) (oi := ⟨some 107, _, _, _, _, _⟩) (v := ?vm11) rfl (by kernel_rfl) (by kernel_rfl) (by kernel_rfl) (fun _ _ _ h => h) (Or.inl ⟨by rfl, ?ym11⟩) (Fr.refl _ _) ?rm11
    case ym11 =>
      intro wq hSw
      (try dsimp only at hSw)
      have hq := hSw.cell_some Q2.out NB.out
      first | (go_simp; done) | (go_simp; with_reducible rfl)
    try simp only [Act.put, List.setIfInBounds_toArray, List.set_cons_zero, List.set_cons_succ]
    refine wpAnyH_take (i := 12) (oi := ⟨some 108, _, _, _, _, _⟩) (v := ?vm12) rfl (by kernel_rfl) (by kernel_rfl) (by kernel_rfl) (fun _ _ _ h => h) (Or.inl ⟨by rfl, ?ym12⟩) (Fr.refl _ _) ?rm12
    case ym12 =>
      intro wq hSw
      (try dsimp only at hSw)
      first | (go_simp; done) | (go_simp; with_reducible rfl)
    try simp only [Act.put, List.setIfInBounds_toArray, List.set_cons_zero, List.set_cons_succ]
    refine wpAnyH_take (i := 13) (oi := ⟨some 109, _, _, _, _, _⟩) (v := ?vm13) rfl (by kernel_rfl) (by kernel_rfl) (by kernel_rfl) (fun _ _ _ h => h) (Or.inl ⟨by rfl, ?ym13⟩) (Fr.refl _ _) ?rm13
    case ym13 =>
      intro wq hSw
      (try dsimp only at hSw)
      have hq := hSw.cell_some Q4.out NB.out
      first | (go_simp; done) | (go_simp; with_reducible rfl)
    try simp only [Act.put, List.setIfInBounds_toArray, List.set_cons_zero, List.set_cons_succ]
    refine wpAnyH_take (i := 14) (oi := ⟨some 110, _, _, _, _, _⟩) (v := ?vm14) rfl (by kernel_rfl) (by kernel_rfl) (by kernel_rfl) (fun _ _ _ h => h) (Or.inl ⟨by rfl, ?ym14⟩) (Fr.refl _ _) ?rm14
    case ym14 =>
      intro wq hSw
      (try dsimp only at hSw)
      first | (go_simp; done) | (go_simp; with_reducible rfl)
    try simp only [Act.put, List.setIfInBounds_toArray, List.set_cons_zero, List.set_cons_succ]
    refine wpAnyH_take (i := 15) (oi := ⟨some 111, _, _, _, _, _⟩) (v := ?vm15) rfl (by kernel_rfl) (by kernel_rfl) (by kernel_rfl) (fun _ _ _ h => h) (Or.inl ⟨by rfl, ?ym15⟩) (Fr.refl _ _) ?rm15
    case ym15 =>
      intro wq hSw
      (try dsimp only at hSw)
      have hq := hSw.cell_some Q3.out NB.out
      first | (go_simp; done) | (go_simp; with_reducible rfl)
    try simp only [Act.put, List.setIfInBounds_toArray, List.set_cons_zero, List.set_cons_succ]
    refine wpAnyH_ready (rs := [7]) (by kernel_rfl) (by simp) ?_
    refine AllReadyH.cons (o := ⟨some 103, _, _, _, _, _⟩) rfl (fun K hK => ?_) AllReadyH.nil
    go_simp
    refine (rows10_any c off HA.out.off1 HA.out.off2 _).mono ?_; rintro e w2 ⟨Aw2, cw2, rfl, hs, hb⟩
    have Pw2 := Lib.hid (P1.out.later DK hb)
    have Sw2 := Lib.hid hs
    have Zw2 := Lib.hid hb
    have hfr := Fr.of_below (S := fun b => S b ∨ w1.heap.size ≤ b) hb
    clear hs hb
    go_wp2_with fail
    refine hK.out _ _ hfr (fun hHeld => ?_)
    clear hK K hHeld
    try simp only [Act.put, List.setIfInBounds_toArray, List.set_cons_zero, List.set_cons_succ]
    refine wpAnyH_re (S' := fun w' => Fr (fun b => S b ∨ w1.heap.size ≤ b) w2 w') (fun w' h => hfr.trans h) ?_
    clear hfr
    refine wpAnyH_ready (rs := [8]) (by kernel_rfl) (by simp) ?_
    refine AllReadyH.cons (o := ⟨some 104, _, _, _, _, _⟩) rfl (fun K hK => ?_) AllReadyH.nil
    go_simp
    refine (Pw2.out.dputrow DK (by omega) at_ HA.out.at1 HA.out.at2 Sw2.out (fun b hb q => OS.out b (by have h : w1.drew.heap.size ≤ b := hb; exact h) q)).mono ?_; rintro e w3 ⟨rfl, Sw3, hp, hn⟩
    have Pw3 := Lib.hid hp
    have Nw3 := Lib.hid hn
    have hfr := hn.1.mono (fun b hb => (show S b ∨ w1.heap.size ≤ b from .inl hb))
    clear hp hn
    go_wp2_with fail
    refine hK.out _ _ hfr (fun hHeld => ?_)
    clear hK K hHeld
    try simp only [Act.put, List.setIfInBounds_toArray, List.set_cons_zero, List.set_cons_succ]
    refine wpAnyH_re (S' := fun w' => Fr (fun b => S b ∨ w1.heap.size ≤ b) w3 w') (fun w' h => hfr.trans h) ?_
    clear hfr
    refine wpAnyH_ready (rs := [16]) (by kernel_rfl) (by simp) ?_
    refine AllReadyH.cons (o := ⟨some 112, _, _, _, _, _⟩) rfl (fun K hK => ?_) AllReadyH.nil
    go_simp
    refine (rows10_any c off HA.out.off1 HA.out.off2 _).mono ?_; rintro e w4 ⟨Aw4, cw4, rfl, hs, hb⟩
    have Pw4 := Lib.hid (Pw3.out.later DK hb)
    have Sw4 := Lib.hid hs
    have Zw4 := Lib.hid hb
    have hfr := Fr.of_below (S := fun b => S b ∨ w1.heap.size ≤ b) hb
    clear hs hb
    go_wp2_with fail
    refine hK.out _ _ hfr (fun hHeld => ?_)
    clear hK K hHeld
    try simp only [Act.put, List.setIfInBounds_toArray, List.set_cons_zero, List.set_cons_succ]
    refine wpAnyH_re (S' := fun w' => Fr (fun b => S b ∨ w1.heap.size ≤ b) w4 w') (fun w' h => hfr.trans h) ?_
    clear hfr
    refine wpAnyH_ready (rs := [17]) (by kernel_rfl) (by simp) ?_
    refine AllReadyH.cons (o := ⟨some 113, _, _, _, _, _⟩) rfl (fun K hK => ?_) AllReadyH.nil
    go_simp
    refine (Pw4.out.xputrow DK (by omega) at_ HA.out.at1 HA.out.at2 Sw4.out (fun b hb q => by have := Pw3.out.lt q; have h : w3.heap.size ≤ b := hb; omega)).mono ?_; rintro e w5 ⟨rfl, Sw5, hp, hn⟩
    have Pw5 := Lib.hid hp
    have Nw5 := Lib.hid hn
    have hfr := hn.1.mono (fun b hb => (show S b ∨ w1.heap.size ≤ b from (Nw3.out.2 b hb).imp id (fun q => by have := Zw2.out.size; have : w1.drew.heap.size = w1.heap.size := rfl; omega)))
    clear hp hn
    go_wp2_with fail
    refine hK.out _ _ hfr (fun hHeld => ?_)
    clear hK K hHeld
    try simp only [Act.put, List.setIfInBounds_toArray, List.set_cons_zero, List.set_cons_succ]
    refine wpAnyH_re (S' := fun w' => Fr (fun b => S b ∨ w1.heap.size ≤ b) w5 w') (fun w' h => hfr.trans h) ?_
    clear hfr
    refine wpAnyH_take (i := 18) (oi := ⟨some 114, _, _, _, _, _⟩) (v := (.bool true)) rfl (by kernel_rfl) (by kernel_rfl) (by kernel_rfl) (fun _ _ _ h => h) (Or.inl ⟨by rfl, ?ym18⟩) (Fr.refl _ _) ?rm18
    case ym18 =>
      intro wq hSw
      exact step_eqi10 (x := .tmp 104) (y := .tmp 113) rfl rfl rfl (decide_eq_true rfl)
    try simp only [Act.put, List.setIfInBounds_toArray, List.set_cons_zero, List.set_cons_succ]
    refine wpAnyH_take (i := 19) (oi := ⟨some 6, _, _, _, _, _⟩) (v := ?vm19) rfl (by kernel_rfl) (by kernel_rfl) (by kernel_rfl) (fun _ _ _ h => h) (Or.inl ⟨by rfl, ?ym19⟩) (Fr.refl _ _) ?rm19
    case ym19 =>
      intro wq hSw
      (try dsimp only at hSw)
      first | (go_simp; done) | (go_simp; with_reducible rfl)
    try simp only [Act.put, List.setIfInBounds_toArray, List.set_cons_zero, List.set_cons_succ]
    refine wpAnyH_done (by kernel_rfl) ?_ _
    go_wp2_with fail
    go_ret
    exact ⟨_, Sw5, rfl, Pw5.out.mono (by omega), SZ.out.up (fun i x => put_n10 _ _ i x), (((Nw3.out.below ((Below.drew HB1.out).trans (Zw2.out.mono HB1.out.size))).later Zw4.out)).trans Nw5.out⟩
  clear q6 Q6
  go_enter Try.func11, Try.ntmps11
  go_wp2_with fail
  rw [← Hw1.out]
  go_wp2_with fail
  go_ret
  exact ⟨x, S, rfl, P0.out.mono (by omega), SZ.out, (Nxt.refl S w).later HB1.out⟩
end
end Go.Proofs.Ytjjoeaneaibklaa
