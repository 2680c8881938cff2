/-
  Bytes that grow in a variable; contracts of bytes.Clone (what may be appended to) and of package blob's PutBytes behind any bytes. Conditions: bounds; no number below 0. (Written by gen_fri.py.)
-/
import Derived.Test.YtpijfghklgmefaaDoorFre
import Derived.Test.YtpijfghklgmefaaDoorFrh
namespace Go.Proofs.YtpijfghklgmefaaDoor
open Go.RowKit Go.Proofs
set_option linter.unusedVariables false
set_option maxRecDepth 20000
set_option maxHeartbeats 1600000

theorem Gro.appendF {w : World} {B n c m : Nat} {A A2 : Option Addr} {c2 : Nat} {l ys : List UInt8} (h : Gro w B A n c l) (hB : B ≤ w.heap.size) (hA : ∀ b o, A = some ⟨b, o, none⟩ → B ≤ b ∧ b < w.heap.size) (hs : Sl w 1 A2 m c2 (cells ys)) (h47 : n + m ≤ 140737488355328) (ty : TypeId) :
    ∃ A' c' w', (Builtin.append_ #[26, 26] ty #[.slice A n c, .slice A2 m c2]).run Tryd.prog w = .ok (.slice A' (n + m) c') w' ∧ Gro w' B A' (n + m) c' (l ++ ys) ∧ Fr (Blk A) w w' ∧ (A' = A ∨ A' = some ⟨w.heap.size, 0, none⟩) ∧ (∀ b o, A' = some ⟨b, o, none⟩ → B ≤ b ∧ b < w'.heap.size) := by
  obtain ⟨A1, c1, w1, hr1, h1, h2⟩ := h.append hB hs h47 ty
  obtain ⟨i0, hi, hz0, hz1, hz2⟩ := info_parts info_u8
  have ho : Own w B 5 1 A n c (cells l) := ⟨h.sl, h.own.imp (fun k => by omega) id⟩
  obtain ⟨A3, c3, w3, hr3, h3, h4, h5, h6⟩ := run_append_fr (P := Tryd.prog) 26 26 ty i0 (.int .u8 0) 1 Tryd.underlying26 hi hz0 hz1 hz2 rfl (by decide) ho hB hA (.slice A2 m c2) m (cells ys) (hs.src Tryd.underlying26 (by decide) (cells_one ys)) (by unfold maxLen; omega) (by omega)
  rw [hr1] at hr3
  injection hr3 with e1 e2
  injection e1 with e3 _ e4
  subst e2 e3 e4
  exact ⟨_, _, _, hr1, h1, h4, h5, h6⟩
theorem wp_append_groF {w : World} {B n c : Nat} {A : Option Addr} {l : List UInt8} {o : Oper} {a : Act} {K : Act → World → Prop} {Q : Exit → Act → World → Prop} (s x : Operand)
    (ho : o.op = .call { callee := .builtin .append, args := #[s, x], argTypes := #[26, 26] })
    (hv : a.eval s = .slice A n c) (h : Gro w B A n c l) (hB : B ≤ w.heap.size) (hA : ∀ b o, A = some ⟨b, o, none⟩ → B ≤ b ∧ b < w.heap.size) (A2 : Option Addr) (m c2 : Nat) (ys : List UInt8) (hx : a.eval x = .slice A2 m c2) (hs : Sl w 1 A2 m c2 (cells ys)) (h47 : n + m ≤ 140737488355328)
    (hk : ∀ A' c' w', Gro w' B A' (n + m) c' (l ++ ys) → Fr (Blk A) w w' → (A' = A ∨ A' = some ⟨w.heap.size, 0, none⟩) → (∀ b o, A' = some ⟨b, o, none⟩ → B ≤ b ∧ b < w'.heap.size) → K (a.put o.dst (.slice A' (n + m) c')) w') : o.wp Tryd.prog a w K Q := by
  obtain ⟨A', c', w', hr, h2, h3, h4, h5⟩ := h.appendF hB hA hs h47 o.type
  unfold Oper.wp execOp
  simp only [ho, resolve, invoke, builtin, Sem.run_bind, Sem.run_pure, Result.andThen_ok, List.map_toArray, List.map_cons, List.map_nil, hv, hx, hr]
  exact hk A' c' w' h2 h3 h4 h5
set_option maxHeartbeats 400000 in
theorem clone17_any (A : Option Addr) (n c : Nat) (l : List UInt8) (w : World) (h : Sl w 1 A n c (cells l)) (h47 : n ≤ 140737488355328) :
    Calls Tryd.prog 47 #[.slice A n c] w fun e w' => ∃ A' c', e = .returned (.slice A' n c') ∧ Gro w' w.heap.size A' n c' l ∧ (∀ b o, A' = some ⟨b, o, none⟩ → w.heap.size ≤ b ∧ b < w'.heap.size) ∧ Below w.heap.size w w' := by
  have hne := fun (W : World) => Lib.run_eql_slice_nil (P := Tryd.prog) W 26 5 A n c 0 0 Tryd.underlying26
  rcases A with _ | ad
  · have hl : l = [] := by
      rcases l with _ | ⟨u, r⟩
      · rfl
      · obtain ⟨_, _, e, _⟩ := h.cell 0 (bv u) rfl
        cases e
    subst hl
    obtain rfl : 0 = n := by have := h.len; simp [cells] at this; omega
    go_enter Tryd.func47, Tryd.ntmps47
    go_wp2
    go_ret
    exact ⟨none, 0, rfl, Gro.nil _ _, fun b o e => by (cases e), Below.refl _ _⟩
  · have hb0 : Below w.heap.size w (w.alloc (.cells #[] 5)) := (Below.refl _ _).alloc (Nat.le_refl _) _
    have hg0 : Gro (w.alloc (.cells #[] 5)) w.heap.size (some ⟨w.heap.size, 0, none⟩) 0 0 [] := ⟨Sl.empty _ _ _ 0 (by decide), .inl ⟨rfl, rfl⟩⟩
    obtain ⟨w0, hw0⟩ : ∃ x, x = w.alloc (.cells #[] 5) := ⟨_, rfl⟩
    have hz : w0.heap.size = w.heap.size + 1 := by rw [hw0]; simp
    have HZ := Lib.hid hz
    rw [← hw0] at hb0 hg0
    have HW0 := Lib.hid hw0
    have HG0 := Lib.hid hg0
    have HB0 := Lib.hid hb0
    have HS := Lib.hid (h.below hb0 (Nat.le_refl _))
    clear hw0 hg0 hb0 h hz
    go_enter Tryd.func47, Tryd.ntmps47
    go_wp2_with (at_builtin; rw [← HW0.out]; refine wpList_plain rfl fun _ hK => ?_; refine wp_append_groF (o := ⟨some _, _, _, _, _, _⟩) (.tmp 5) (.tmp 6) rfl rfl HG0.out (by have := HZ.out; omega) (fun b o e => by injection e with e; injection e with e _; have := HZ.out; omega) (some ad) n c l rfl HS.out (by omega) ?_; intro A' c' w' hg hf hor hlo; refine hK _ _ ?_)
    have HG := Lib.hid hg
    have HLO := Lib.hid hlo
    have HB := Lib.hid (HB0.out.trans (hf.below (by have := HZ.out; omega) (fun b ⟨o, e⟩ => by injection e with e; injection e with e _; omega)))
    clear hg hf hor hlo
    go_wp2
    go_ret
    have h1 := HG.out
    rw [Nat.zero_add, List.nil_append] at h1
    exact ⟨A', c', rfl, h1, HLO.out, HB.out⟩
theorem ownsRow_fr {w w' : World} {S : Nat → Prop} {B n c : Nat} {A : Option Addr} {xs : List Value} (h : w.ownsRow B 5 1 (.slice A n c) n xs) (hf : Fr S w w') (hS : ∀ b o, A = some ⟨b, o, none⟩ → ¬ S b) : w'.ownsRow B 5 1 (.slice A n c) n xs := by
  refine ⟨h.1, h.2.imp id fun ⟨g, cap, cur, hv, hb, hg, k1, k2, k3, k4⟩ => ⟨g, cap, cur, hv, hb, ?_, k1, k2, k3, k4⟩⟩
  injection hv with e _ _
  exact hf.row_some hg (hS g 0 e)
theorem Gro.fr17 {w w' : World} {S : Nat → Prop} {B n c : Nat} {A : Option Addr} {l : List UInt8} (h : Gro w B A n c l) (hf : Fr S w w') (hS : ∀ b o, A = some ⟨b, o, none⟩ → ¬ S b) : Gro w' B A n c l := ⟨h.sl.fr hf (fun b o _ e => hS b o e), h.own.imp id fun k => ownsRow_fr k hf hS⟩
/-- Bytes that grow, in a variable. -/
structure Al17 (w : World) (B X : Nat) (l : List UInt8) : Prop where
  ex : ∃ A c, w.heap[X]? = some (.cells #[.slice A l.length c] 26 (0, 0)) ∧ Gro w B A l.length c l ∧ ∀ b o, A = some ⟨b, o, none⟩ → B ≤ b ∧ b ≠ X ∧ b < w.heap.size
  lo : B ≤ X
  len : l.length ≤ 200000
theorem put17_any (B X x : Nat) (l : List UInt8) (hx : x < 18446744073709551616) (w : World) (h : Al17 w B X l) (hB : B ≤ w.heap.size) (hl : l.length ≤ 199990) :
    Calls Tryd.prog 49 #[.int .u64 (x : Int), .pointer (some ⟨X, 0, none⟩)] w fun e w' => e = .returned (.tuple #[]) ∧ Al17 w' B X (l ++ venc 9 x) ∧ Below B w w' := by
  obtain ⟨⟨A, c, hbx, hg, hA⟩, hlo, _⟩ := h
  have hv := venc_length 9 x
  have HXW := Lib.hid (show w.drew.heap[X]? = _ from hbx)
  have HG := Lib.hid (hg.later (Below.drew (Below.refl _ _)))
  have HB := Lib.hid (show Below B w w.drew from Below.drew (Below.refl _ _))
  have HAW := Lib.hid (show ∀ b o, A = some ⟨b, o, none⟩ → B ≤ b ∧ b ≠ X ∧ b < w.drew.heap.size from hA)
  clear hbx hg hA
  go_enter Tryd.func49, Tryd.ntmps49
  go_wp2_with fail
  refine wp_region_held_drew (S := fun w' => Fr (fun b => b = X ∨ Blk A b) w w') (by kernel_rfl) (Fr.drew (Fr.refl _ _)) (fun hHeld => ?_)
  clear hHeld
  have hHeld : Fr (fun b => b = X ∨ Blk A b) w w.drew := Fr.drew (Fr.refl _ _)
  have hz_0 : w.heap.size ≤ w.drew.heap.size := Nat.le_refl _
  obtain ⟨v_1, hw⟩ : ∃ v_1, v_1 = w.drew := ⟨_, rfl⟩
  rw [← hw] at hHeld hz_0 HXW HG HB HAW ⊢
  clear hw
  refine wpAnyH_take (i := 1) (oi := ⟨some 4, _, _, _, _, _⟩) (v := ?vg1_2) rfl (by kernel_rfl) (by kernel_rfl) (by kernel_rfl) (fun _ _ _ h => h) (Or.inl ⟨by rfl, ?yg1_2⟩) hHeld ?rg1_2
  case yg1_2 =>
    intro wq hSw
    (try dsimp only at hSw)
    first | (go_simp; done) | (go_simp; with_reducible rfl)
  try simp only [Act.put, List.setIfInBounds_toArray, List.set_cons_zero, List.set_cons_succ]
  refine wpAnyH_ready (rs := [0, 2]) (by kernel_rfl) (by simp) ?_
  refine AllReadyH.cons (o := ⟨some 3, _, _, _, _, _⟩) rfl (fun K hK => ?_) (AllReadyH.cons (o := ⟨some 5, _, _, _, _, _⟩) rfl (fun K hK => ?_) (AllReadyH.nil))
  · have hq : v_1.cell? ⟨X, 0, none⟩ = some (.slice A l.length c) := cell_of_one HXW.out
    go_simp
    refine hK.out _ _ hHeld (fun _ => ?_)
    clear hK K
    try simp only [Act.put, List.setIfInBounds_toArray, List.set_cons_zero, List.set_cons_succ]
    refine wpAnyH_ready (rs := [2]) (by kernel_rfl) (by simp) ?_
    refine AllReadyH.cons (o := ⟨some 5, _, _, _, _, _⟩) rfl (fun K hK => ?_) (AllReadyH.nil)
    go_simp
    have hp := putVar_any none 0 0 [] x v_1 (Sl.nil v_1 1 0 (by decide)) (by decide) hx
    rw [List.nil_append] at hp
    refine hp.mono ?_; clear hp; rintro e v_3 ⟨A5, n5, c5, rfl, hs5, hb5⟩
    have hfN : Fr (fun b => b = X ∨ Blk A b) v_1 v_3 := Fr.of_below hb5
    have hn5 := hs5.len
    rw [cells_length, Nat.mul_one] at hn5
    have S5 := Lib.hid hs5
    have HG := Lib.hid (HG.out.later hb5)
    have HXW := Lib.hid ((hb5.block X (block_lt HXW.out)).trans HXW.out)
    have HAW := Lib.hid (show ∀ b o, A = some ⟨b, o, none⟩ → B ≤ b ∧ b ≠ X ∧ b < v_3.heap.size from fun b o e => ⟨(HAW.out b o e).1, (HAW.out b o e).2.1, Nat.lt_of_lt_of_le (HAW.out b o e).2.2 hb5.size⟩)
    have HB := Lib.hid (HB.out.trans (hb5.mono (Nat.le_trans hB HB.out.size)))
    clear hs5 hb5
    go_wp2_with fail
    have hHeld := hHeld.trans hfN
    have hz_4 := hfN.size
    refine hK.out _ _ hHeld (fun _ => ?_)
    clear hK K hfN
    try simp only [Act.put, List.setIfInBounds_toArray, List.set_cons_zero, List.set_cons_succ]
    refine wpAnyH_ready (rs := [3]) (by kernel_rfl) (by simp) ?_
    refine AllReadyH.cons (o := ⟨some 6, _, _, _, _, _⟩) rfl (fun K hK => ?_) (AllReadyH.nil)
    refine wp_append_groF (o := ⟨some 6, _, _, _, _, _⟩) (.tmp 3) (.tmp 5) rfl rfl HG.out (Nat.le_trans hB HB.out.size) (fun b o e => ⟨(HAW.out b o e).1, (HAW.out b o e).2.2⟩) _ n5 _ (venc 9 x) rfl S5.out (by omega) ?_
    intro A7 c7 w7 hg7 hf7 hor7 hlo7
    have hfN : Fr (fun b => b = X ∨ Blk A b) v_3 w7 := hf7.mono (fun b hb => .inr hb)
    have X7 := Lib.hid (hf7.row_some HXW.out (fun hb => by obtain ⟨o, e⟩ := hb; exact (HAW.out _ _ e).2.1 rfl))
    have B7 := Lib.hid (HB.out.trans (hf7.below (Nat.le_trans hB HB.out.size) (fun b ⟨o, e⟩ => (HAW.out b o e).1)))
    have A7' := Lib.hid (show ∀ b o, A7 = some ⟨b, o, none⟩ → B ≤ b ∧ b ≠ X ∧ b < w7.heap.size from fun b o e => by
      refine ⟨(hlo7 b o e).1, ?_, (hlo7 b o e).2⟩
      rcases hor7 with e2 | e2
      · rw [e2] at e; exact (HAW.out b o e).2.1
      · rw [e2] at e
        injection e with e
        injection e with e _
        have := block_lt HXW.out
        omega)
    have G7 := Lib.hid hg7
    have CX7 := Lib.hid (cell_of_one X7.out)
    have FX7 := Lib.hid (show w7.frozen? ⟨X, 0, none⟩ = false from frozen_of_row _ _ _ _ _ X7.out)
    clear hg7 hf7 hor7 hlo7
    have hHeld := hHeld.trans hfN
    have hz_5 := hfN.size
    refine hK.out _ _ hHeld (fun _ => ?_)
    clear hK K hfN
    try simp only [Act.put, List.setIfInBounds_toArray, List.set_cons_zero, List.set_cons_succ]
    refine wpAnyH_ready (rs := [4]) (by kernel_rfl) (by simp) ?_
    refine AllReadyH.cons (o := ⟨none, _, _, _, _, _⟩) rfl (fun K hK => ?_) (AllReadyH.nil)
    have q0 := CX7.out
    have q1 := FX7.out
    go_simp
    clear q0 q1
    have hfN : Fr (fun b => b = X ∨ Blk A b) w7 (w7.setCell ⟨X, 0, none⟩ (.slice A7 (l.length + n5) c7)) := (Fr.refl (fun b => b = X ∨ Blk A b) _).setCell (p := ⟨X, 0, none⟩) (.inr (.inl rfl)) _
    have hb8 := heap_setCell_same w7 X 0 _ _ (.slice A7 (l.length + n5) c7) X7.out
    have hfx : Fr (fun b => b = X) w7 (w7.setCell ⟨X, 0, none⟩ (.slice A7 (l.length + n5) c7)) := (Fr.refl (fun b => b = X) _).setCell (p := ⟨X, 0, none⟩) (.inr rfl) _
    have hll : (l ++ venc 9 x).length = l.length + n5 := by rw [List.length_append]; omega
    have AL := Lib.hid (show Al17 (w7.setCell ⟨X, 0, none⟩ (.slice A7 (l.length + n5) c7)) B X (l ++ venc 9 x) from ⟨⟨A7, c7, by rw [hll]; exact hb8, by rw [hll]; exact G7.out.fr17 hfx (fun b o e => (A7'.out b o e).2.1), fun b o e => ⟨(A7'.out b o e).1, (A7'.out b o e).2.1, Nat.lt_of_lt_of_le (A7'.out b o e).2.2 hfx.size⟩⟩, hlo, by rw [hll]; omega⟩)
    have BL := Lib.hid (B7.out.trans (hfx.below (Nat.le_trans hB B7.out.size) (fun b hb => by have hb : b = X := hb; omega)))
    obtain ⟨w8, hw8⟩ : ∃ y, y = w7.setCell ⟨X, 0, none⟩ (.slice A7 (l.length + n5) c7) := ⟨_, rfl⟩
    rw [← hw8] at hfN AL BL ⊢
    clear hw8 hb8 hfx
    have hHeld := hHeld.trans hfN
    have hz_6 := hfN.size
    refine hK.out _ _ hHeld (fun _ => ?_)
    clear hK K hfN
    try simp only [Act.put, List.setIfInBounds_toArray, List.set_cons_zero, List.set_cons_succ]
    refine wpAnyH_done (by kernel_rfl) ?_ _
    clear hHeld
    go_wp2_with fail
    go_end0
    exact ⟨rfl, AL.out, BL.out⟩
  · go_simp
    have hp := putVar_any none 0 0 [] x v_1 (Sl.nil v_1 1 0 (by decide)) (by decide) hx
    rw [List.nil_append] at hp
    refine hp.mono ?_; clear hp; rintro e v_7 ⟨A5, n5, c5, rfl, hs5, hb5⟩
    have hfN : Fr (fun b => b = X ∨ Blk A b) v_1 v_7 := Fr.of_below hb5
    have hn5 := hs5.len
    rw [cells_length, Nat.mul_one] at hn5
    have S5 := Lib.hid hs5
    have HG := Lib.hid (HG.out.later hb5)
    have HXW := Lib.hid ((hb5.block X (block_lt HXW.out)).trans HXW.out)
    have HAW := Lib.hid (show ∀ b o, A = some ⟨b, o, none⟩ → B ≤ b ∧ b ≠ X ∧ b < v_7.heap.size from fun b o e => ⟨(HAW.out b o e).1, (HAW.out b o e).2.1, Nat.lt_of_lt_of_le (HAW.out b o e).2.2 hb5.size⟩)
    have HB := Lib.hid (HB.out.trans (hb5.mono (Nat.le_trans hB HB.out.size)))
    clear hs5 hb5
    go_wp2_with fail
    have hHeld := hHeld.trans hfN
    have hz_8 := hfN.size
    refine hK.out _ _ hHeld (fun _ => ?_)
    clear hK K hfN
    try simp only [Act.put, List.setIfInBounds_toArray, List.set_cons_zero, List.set_cons_succ]
    refine wpAnyH_ready (rs := [0]) (by kernel_rfl) (by simp) ?_
    refine AllReadyH.cons (o := ⟨some 3, _, _, _, _, _⟩) rfl (fun K hK => ?_) (AllReadyH.nil)
    have hq : v_7.cell? ⟨X, 0, none⟩ = some (.slice A l.length c) := cell_of_one HXW.out
    go_simp
    refine hK.out _ _ hHeld (fun _ => ?_)
    clear hK K
    try simp only [Act.put, List.setIfInBounds_toArray, List.set_cons_zero, List.set_cons_succ]
    refine wpAnyH_ready (rs := [3]) (by kernel_rfl) (by simp) ?_
    refine AllReadyH.cons (o := ⟨some 6, _, _, _, _, _⟩) rfl (fun K hK => ?_) (AllReadyH.nil)
    refine wp_append_groF (o := ⟨some 6, _, _, _, _, _⟩) (.tmp 3) (.tmp 5) rfl rfl HG.out (Nat.le_trans hB HB.out.size) (fun b o e => ⟨(HAW.out b o e).1, (HAW.out b o e).2.2⟩) _ n5 _ (venc 9 x) rfl S5.out (by omega) ?_
    intro A7 c7 w7 hg7 hf7 hor7 hlo7
    have hfN : Fr (fun b => b = X ∨ Blk A b) v_7 w7 := hf7.mono (fun b hb => .inr hb)
    have X7 := Lib.hid (hf7.row_some HXW.out (fun hb => by obtain ⟨o, e⟩ := hb; exact (HAW.out _ _ e).2.1 rfl))
    have B7 := Lib.hid (HB.out.trans (hf7.below (Nat.le_trans hB HB.out.size) (fun b ⟨o, e⟩ => (HAW.out b o e).1)))
    have A7' := Lib.hid (show ∀ b o, A7 = some ⟨b, o, none⟩ → B ≤ b ∧ b ≠ X ∧ b < w7.heap.size from fun b o e => by
      refine ⟨(hlo7 b o e).1, ?_, (hlo7 b o e).2⟩
      rcases hor7 with e2 | e2
      · rw [e2] at e; exact (HAW.out b o e).2.1
      · rw [e2] at e
        injection e with e
        injection e with e _
        have := block_lt HXW.out
        omega)
    have G7 := Lib.hid hg7
    have CX7 := Lib.hid (cell_of_one X7.out)
    have FX7 := Lib.hid (show w7.frozen? ⟨X, 0, none⟩ = false from frozen_of_row _ _ _ _ _ X7.out)
    clear hg7 hf7 hor7 hlo7
    have hHeld := hHeld.trans hfN
    have hz_9 := hfN.size
    refine hK.out _ _ hHeld (fun _ => ?_)
    clear hK K hfN
    try simp only [Act.put, List.setIfInBounds_toArray, List.set_cons_zero, List.set_cons_succ]
    refine wpAnyH_ready (rs := [4]) (by kernel_rfl) (by simp) ?_
    refine AllReadyH.cons (o := ⟨none, _, _, _, _, _⟩) rfl (fun K hK => ?_) (AllReadyH.nil)
    have q0 := CX7.out
    have q1 := FX7.out
    go_simp
    clear q0 q1
    have hfN : Fr (fun b => b = X ∨ Blk A b) w7 (w7.setCell ⟨X, 0, none⟩ (.slice A7 (l.length + n5) c7)) := (Fr.refl (fun b => b = X ∨ Blk A b) _).setCell (p := ⟨X, 0, none⟩) (.inr (.inl rfl)) _
    have hb8 := heap_setCell_same w7 X 0 _ _ (.slice A7 (l.length + n5) c7) X7.out
    have hfx : Fr (fun b => b = X) w7 (w7.setCell ⟨X, 0, none⟩ (.slice A7 (l.length + n5) c7)) := (Fr.refl (fun b => b = X) _).setCell (p := ⟨X, 0, none⟩) (.inr rfl) _
    have hll : (l ++ venc 9 x).length = l.length + n5 := by rw [List.length_append]; omega
    have AL := Lib.hid (show Al17 (w7.setCell ⟨X, 0, none⟩ (.slice A7 (l.length + n5) c7)) B X (l ++ venc 9 x) from ⟨⟨A7, c7, by rw [hll]; exact hb8, by rw [hll]; exact G7.out.fr17 hfx (fun b o e => (A7'.out b o e).2.1), fun b o e => ⟨(A7'.out b o e).1, (A7'.out b o e).2.1, Nat.lt_of_lt_of_le (A7'.out b o e).2.2 hfx.size⟩⟩, hlo, by rw [hll]; omega⟩)
    have BL := Lib.hid (B7.out.trans (hfx.below (Nat.le_trans hB B7.out.size) (fun b hb => by have hb : b = X := hb; omega)))
    obtain ⟨w8, hw8⟩ : ∃ y, y = w7.setCell ⟨X, 0, none⟩ (.slice A7 (l.length + n5) c7) := ⟨_, rfl⟩
    rw [← hw8] at hfN AL BL ⊢
    clear hw8 hb8 hfx
    have hHeld := hHeld.trans hfN
    have hz_10 := hfN.size
    refine hK.out _ _ hHeld (fun _ => ?_)
    clear hK K hfN
    try simp only [Act.put, List.setIfInBounds_toArray, List.set_cons_zero, List.set_cons_succ]
    refine wpAnyH_done (by kernel_rfl) ?_ _
    clear hHeld
    go_wp2_with fail
    go_end0
    exact ⟨rfl, AL.out, BL.out⟩
theorem below17_one (z : Int) (w : World) : Calls Tryd.prog 65 #[.int .i64 z] w fun e w' => e = .returned (.bool (decide (z < 0))) ∧ w' = w := by
  by_cases c : z < 0
  · rw [decide_eq_true c]
    go_enter Tryd.func65, Tryd.ntmps65
    go_wp2_with fail
    go_ret
    exact ⟨rfl, rfl⟩
  · rw [decide_eq_false c]
    go_enter Tryd.func65, Tryd.ntmps65
    go_wp2_with fail
    go_ret
    exact ⟨rfl, rfl⟩
theorem below17_no (A : Option Addr) (n c : Nat) (l : List Int) (w : World) (h : Sl w 1 A n c (icells l)) (hz : ∀ z ∈ l, 0 ≤ z) :
    Calls Tryd.prog 48 #[.slice A n c] w fun e w' => e = .returned (.bool false) ∧ w' = w := by
  have hc := contains17_any 65 (enters_of Tryd.func65 (by kernel_rfl) rfl) (fun p => decide (p < 0)) A n c l w h (fun z _ => below17_one z w)
  have e : (l.any fun p => decide (p < 0)) = false := by
    rw [List.any_eq_false]
    intro z hz'
    rw [decide_eq_false (by have := hz z hz'; omega)]
    decide
  rw [e] at hc
  clear h e hz
  go_enter Tryd.func48, Tryd.ntmps48
  go_wp2_with fail
  refine hc.mono ?_; clear hc; rintro e w' ⟨rfl, rfl⟩
  go_wp2_with fail
  go_ret
  exact ⟨rfl, rfl⟩
/-- A blob as bytes. -/
def blobI (q : Int) (g : Nat) (ps : List Int) : List UInt8 := venc 9 q.toNat ++ venc 9 g ++ venc 9 ps.length ++ ps.flatMap fun p => venc 9 p.toNat
theorem flat_venc (ps : List Int) : (ps.flatMap fun p => venc 9 p.toNat).length ≤ ps.length * 10 := by
  induction ps with
  | nil => simp
  | cons p r ih => rw [List.flatMap_cons, List.length_append, List.length_cons, Nat.add_mul]; have := venc_length 9 p.toNat; omega
/-- A blob in a variable. -/
def BlB (w : World) (B : Nat) (A : Option Addr) (n c g : Nat) (q : Int) : Prop := w.heap[B]? = some (.cells #[.slice A n c, .int .u64 (g : Int), .int .i64 q] 55 (0, 0))
section
variable {w w' : World} {B n c g : Nat} {A : Option Addr} {q : Int}
theorem BlB.c0 (h : BlB w B A n c g q) : w.cell? ⟨B, 0, none⟩ = some (.slice A n c) := by rw [cell_of_row _ _ _ _ _ _ h]; rfl
theorem BlB.c1 (h : BlB w B A n c g q) : w.cell? ⟨B, 1, none⟩ = some (.int .u64 (g : Int)) := by rw [cell_of_row _ _ _ _ _ _ h]; rfl
theorem BlB.c2 (h : BlB w B A n c g q) : w.cell? ⟨B, 2, none⟩ = some (.int .i64 q) := by rw [cell_of_row _ _ _ _ _ _ h]; rfl
theorem BlB.later (h : BlB w B A n c g q) (hb : Below w.heap.size w w') : BlB w' B A n c g q := (hb.block _ (block_lt h)).trans h
theorem BlB.up (h : BlB w B A n c g q) {C : Nat} (hb : Below C w w') (hC : B < C) : BlB w' B A n c g q := (hb.block _ hC).trans h
end
theorem putBytes17 (A : Option Addr) (n c : Nat) (l : List UInt8) (PA : Option Addr) (pc g : Nat) (q : Int) (ps : List Int) (hn : n ≤ 100000) (hl : ps.length ≤ 600) (hq : 0 ≤ q ∧ q < 9223372036854775808) (hg : g < 18446744073709551616) (hp : ∀ x ∈ ps, 0 ≤ x ∧ x < 9223372036854775808) (w : World) (hs : Sl w 1 A n c (cells l)) (hps : Sl w 1 PA ps.length pc (icells ps)) :
    Calls Tryd.prog 22 #[.slice A n c, .agg #[.slice PA ps.length pc, .int .u64 (g : Int), .int .i64 q]] w (RetBytes w.heap.size w (l ++ blobI q g ps)) := by
  have hln := hs.len
  rw [cells_length, Nat.mul_one] at hln
  have HLN := Lib.hid hln
  have HP := Lib.hid hp
  obtain ⟨q, rfl⟩ := Int.eq_ofNat_of_zero_le hq.1
  obtain ⟨m, hm⟩ : ∃ m, m = ps.length := ⟨_, rfl⟩
  rw [← hm] at hl hps ⊢
  have HM := Lib.hid hm
  have hq2 : q < 9223372036854775808 := by omega
  have hba : Below w.heap.size w (w.alloc (.cells #[.slice PA m pc, .int .u64 (g : Int), .int .i64 (q : Int)] 55)) := (Below.refl _ _).alloc (Nat.le_refl _) _
  have hxa : BlB (w.alloc (.cells #[.slice PA m pc, .int .u64 (g : Int), .int .i64 (q : Int)] 55)) w.heap.size PA m pc g (q : Int) := heap_alloc_new w _
  obtain ⟨wa, hwa⟩ : ∃ x, x = w.alloc (.cells #[.slice PA m pc, .int .u64 (g : Int), .int .i64 (q : Int)] 55) := ⟨_, rfl⟩
  have HWA := Lib.hid hwa
  rw [← hwa] at hba hxa
  have hcl := clone17_any A n c l wa (hs.below hba (Nat.le_refl _)) (by omega)
  have e1 : IntKind.u64.wrap (q : Int) = (q : Int) := by rw [IntKind.wrap_u64]; omega
  have e2 : IntKind.u64.wrap (m : Int) = (m : Int) := by rw [IntKind.wrap_u64]; omega
  have E2 := Lib.hid e2
  have XA := Lib.hid hxa
  have BA := Lib.hid hba
  have HS := Lib.hid hps
  have q0 : decide ((q : Int) < 0) = false := by simp
  have hm63 : m ≤ 600 := hl
  clear hba hxa hwa hs hps hp hq hln hm e2
  go_enter Tryd.func22, Tryd.ntmps22
  go_wp2_with (rw [← HWA.out])
  refine hcl.mono ?_; clear hcl; rintro e w1 ⟨A1, c1, rfl, hg1, hlo1, hb1⟩
  obtain ⟨B, hB⟩ : ∃ B, B = w.heap.size := ⟨_, rfl⟩
  have hBa : B < wa.heap.size := by rw [hB]; exact block_lt XA.out
  have hb2 : Below w1.heap.size w1 (w1.alloc (.cells #[.slice A1 n c1] 26)) := (Below.refl _ _).alloc (Nat.le_refl _) _
  have hx2 := heap_alloc_new w1 (.cells #[.slice A1 n c1] 26)
  obtain ⟨w2, hw2⟩ : ∃ x, x = w1.alloc (.cells #[.slice A1 n c1] 26) := ⟨_, rfl⟩
  have HW2 := Lib.hid hw2
  rw [← hw2] at hb2 hx2
  have AL2 := Lib.hid (show Al17 w2 wa.heap.size w1.heap.size l from ⟨⟨A1, c1, by rw [HLN.out]; exact hx2, by rw [HLN.out]; exact hg1.later hb2, fun b o e => ⟨(hlo1 b o e).1, by have := (hlo1 b o e).2; omega, Nat.lt_of_lt_of_le (hlo1 b o e).2 hb2.size⟩⟩, hb1.size, by rw [HLN.out]; omega⟩)
  have B2 := Lib.hid (hb1.trans (hb2.mono hb1.size))
  have X2 := Lib.hid ((XA.out.later hb1).later hb2)
  rw [← hB] at X2 ⊢
  have HBB := Lib.hid hB
  have HBA := Lib.hid hBa
  have c2 := X2.out.c2
  have c0 := X2.out.c0
  have hbel := below17_no PA m pc ps w2 (HS.out.below (BA.out.trans (B2.out.mono BA.out.size)) (Nat.le_refl _)) (fun z hz => (HP.out z hz).1)
  obtain ⟨X, hX⟩ : ∃ X, X = w1.heap.size := ⟨_, rfl⟩
  have HXX := Lib.hid hX
  clear hb1 hlo1 hg1 hb2 hx2 hw2 hB hBa
  go_wp2_with (rw [← HW2.out])
  refine hbel.mono ?_; clear hbel; rintro e w3 ⟨rfl, hw3⟩
  obtain rfl : w2 = w3 := hw3.symm
  rw [← hX] at AL2 ⊢
  clear hX
  have hz2 : wa.heap.size ≤ w2.heap.size := B2.out.size
  have h4 := put17_any wa.heap.size X q l (by omega) w2 AL2.out hz2 (by rw [HLN.out]; omega)
  go_wp2_with fail
  refine h4.mono ?_; clear h4; rintro e w4 ⟨rfl, hal, hb⟩
  have AL4 := Lib.hid hal
  have B4 := Lib.hid (B2.out.trans hb)
  have X4 := Lib.hid (X2.out.up hb HBA.out)
  have c1 := X4.out.c1
  have hz4 : wa.heap.size ≤ w4.heap.size := B4.out.size
  have h5 := put17_any wa.heap.size X g _ hg w4 AL4.out hz4 (by have := venc_length 9 q; rw [List.length_append, HLN.out]; omega)
  clear hal hb AL2 c2 c0
  go_wp2_with fail
  refine h5.mono ?_; clear h5; rintro e w5 ⟨rfl, hal, hb⟩
  have AL5 := Lib.hid hal
  have B5 := Lib.hid (B4.out.trans hb)
  have X5 := Lib.hid (X4.out.up hb HBA.out)
  have c0 := X5.out.c0
  have hz5 : wa.heap.size ≤ w5.heap.size := B5.out.size
  have e2 := E2.out
  have h6 := put17_any wa.heap.size X m _ (by omega) w5 AL5.out hz5 (by have := venc_length 9 q; have := venc_length 9 g; simp only [List.length_append, HLN.out]; omega)
  clear hal hb AL4 c1 X4 B4 hz4
  go_wp2_with fail
  refine h6.mono ?_; clear h6; rintro e w6 ⟨rfl, hal, hb⟩
  have AL6 := Lib.hid hal
  have B6 := Lib.hid (B5.out.trans hb)
  have X6 := Lib.hid (X5.out.up hb HBA.out)
  have c0 := X6.out.c0
  clear hal hb AL5 X5 B5 hz5 e2
  go_wp2_with fail
  go_loopw [39] (fun iv wr => ∃ i : Nat, i ≤ m ∧ iv = .int .i64 (i : Int) ∧ Al17 wr wa.heap.size X (l ++ venc 9 q ++ venc 9 g ++ venc 9 m ++ (ps.take i).flatMap (fun p => venc 9 p.toNat)) ∧ Below wa.heap.size wa wr) (fun iv _ => m - (intOf iv).toNat)
  case atStart => exact ⟨0, by omega, rfl, by simpa using AL6.out, B6.out⟩
  case round =>
    obtain ⟨i, hi, rfl, hal, hb⟩ := hrel
    have AL := Lib.hid hal
    have BL := Lib.hid hb
    clear hal hb AL6 X6 B6
    by_cases hlt : i < m
    · have hii : (i : Int) < (m : Int) := by omega
      have hip : i < ps.length := by rw [← HM.out]; exact hlt
      have sl := HS.out.below (BA.out.trans (BL.out.mono BA.out.size)) (Nat.le_refl _)
      obtain ⟨b1, o1, rfl, hc⟩ := sl.at_ hlt
      have hcell := hc i _ (icells_get ps i hip)
      have hpx := HP.out ps[i] (List.getElem_mem hip)
      have htk : ps.take (i + 1) = ps.take i ++ [ps[i]] := (List.take_append_getElem hip).symm
      have hfl := flat_venc (ps.take i)
      rw [List.length_take] at hfl
      obtain ⟨y, hy⟩ := Int.eq_ofNat_of_zero_le hpx.1
      rw [hy] at hcell hpx htk
      have HTK := Lib.hid htk
      have e3 : IntKind.u64.wrap (y : Int) = (y : Int) := by rw [IntKind.wrap_u64]; omega
      have h7 := put17_any wa.heap.size X y _ (by omega) wr AL.out BL.out.size (by have := venc_length 9 q; have := venc_length 9 g; have := venc_length 9 m; simp only [List.length_append, HLN.out]; omega)
      clear hc hy htk sl c0 hfl
      go_wp2_with fail
      refine h7.mono ?_; clear h7; rintro e w8 ⟨rfl, hal, hb⟩
      have AL8 := Lib.hid hal
      have B8 := Lib.hid (BL.out.trans hb)
      clear hal hb
      go_wp2_with fail
      go_roundw
      case rel =>
        refine ⟨i + 1, by omega, by go_num, ?_, B8.out⟩
        rw [HTK.out, List.flatMap_append, ← List.append_assoc]
        simpa using AL8.out
      case measure => simp [intOf]; omega
    · obtain rfl : m = i := by omega
      obtain ⟨A9, c9, hx9, hg9, _⟩ := AL.out.ex
      obtain ⟨N9, hN9⟩ : ∃ N, N = (l ++ venc 9 q ++ venc 9 g ++ venc 9 m ++ (ps.take m).flatMap (fun p => venc 9 p.toNat)).length := ⟨_, rfl⟩
      rw [← hN9] at hx9 hg9
      have q9 := cell_of_one hx9
      have HR9 := Lib.hid hg9
      clear hx9 hg9 c0 hN9
      go_wp2_with fail
      go_ret
      have h1 := HR9.out.sl
      have e : l ++ venc 9 q ++ venc 9 g ++ venc 9 m ++ (ps.take m).flatMap (fun p => venc 9 p.toNat) = l ++ blobI (q : Int) g ps := by
        rw [blobI, List.take_of_length_le (by rw [← HM.out]; exact Nat.le_refl _), Int.toNat_natCast, ← HM.out]
        simp only [List.append_assoc]
      rw [e] at h1
      exact ⟨A9, N9, c9, rfl, h1, BA.out.trans (BL.out.mono BA.out.size)⟩
end Go.Proofs.YtpijfghklgmefaaDoor
