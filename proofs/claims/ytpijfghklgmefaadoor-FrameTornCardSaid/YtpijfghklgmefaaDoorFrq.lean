/-
  What must come at any rate of layer 17 (function frames of the law): the example comes back. Condition: crc's table.
-/
import Derived.Test.YtpijfghklgmefaaDoorFrp
import Derived.Great.BuildSlice
namespace Go.Proofs.YtpijfghklgmefaaDoor
open Go.RowKit Go.Proofs
set_option linter.unusedVariables false
set_option maxRecDepth 20000
set_option maxHeartbeats 3200000

def exA : ChF := ⟨⟨#[97]⟩, true, [], 0, 0⟩
def exB : ChF := ⟨⟨#[98]⟩, false, [3], 9, 2⟩
def exL17 : List UInt8 := [7, 2, 1, 97, 1, 1, 98, 0, 2, 9, 1, 3]
theorem ex_put : putR 7 [exA, exB] = exL17 := by kernel_rfl
theorem ex_get : getR17 exL17 = (7, [exA, exB], 0) := by kernel_rfl
theorem ex_ok : okR [exA, exB] = true := by kernel_rfl
theorem ex_cut : ∃ r, cutF 1 [] = [r] ∧ r.length = 7 ∧ r.take 3 = [3, 0, 0] := ⟨pcF 3 [] 0, rfl, by rw [pcF_len]; rfl, by rw [pcF_take]; rfl⟩
theorem ex_chs {w : World} {g k : Nat} {v1 v2 : CvF} (h : w.heap[g]? = some (.cells (v1.vals ++ v2.vals).toArray 57 (0, 0))) (h1 : v1.Ok w) (h2 : v2.Ok w) : Chs w (some ⟨g, 0, none⟩) 2 2 [v1, v2] :=
  ⟨rfl, Nat.le_refl _, by decide, fun i v hv => by
    refine ⟨g, 0, rfl, ?_⟩
    match i, hv with
    | 0, hv =>
      obtain rfl : v1 = v := by simpa using hv
      exact ⟨fun j u hu => by
        rw [cell_of_row _ _ _ _ _ _ h]
        have hj : j < 5 := (List.getElem?_eq_some_iff.1 hu).1
        match j, hj, hu with
        | 0, _, hu => exact hu
        | 1, _, hu => exact hu
        | 2, _, hu => exact hu
        | 3, _, hu => exact hu
        | 4, _, hu => exact hu, h1⟩
    | 1, hv =>
      obtain rfl : v2 = v := by simpa using hv
      exact ⟨fun j u hu => by
        rw [cell_of_row _ _ _ _ _ _ h]
        have hj : j < 5 := (List.getElem?_eq_some_iff.1 hu).1
        match j, hj, hu with
        | 0, _, hu => exact hu
        | 1, _, hu => exact hu
        | 2, _, hu => exact hu
        | 3, _, hu => exact hu
        | 4, _, hu => exact hu, h2⟩
    | i + 2, hv => simp at hv⟩

theorem frames17 (w : World) (hN : Nt w) : Calls Tryd.prog 8 #[] w fun e w' => e = .returned (.bool true) ∧ Below w.heap.size w w' := by
  obtain ⟨va, hva⟩ : ∃ v : CvF, v = ⟨exA, none, 0⟩ := ⟨_, rfl⟩
  obtain ⟨vb, hvb⟩ : ∃ v : CvF, v = ⟨exB, some ⟨w.heap.size, 0, none⟩, 1⟩ := ⟨_, rfl⟩
  have hb1 : Below w.heap.size w (w.alloc (.cells #[.int .i64 3] 3)) := (Below.refl _ _).alloc (Nat.le_refl _) _
  have hx1 := heap_alloc_new w (.cells #[.int .i64 3] 3)
  have hs1 : (w.alloc (.cells #[.int .i64 3] 3)).heap.size = w.heap.size + 1 := by simp
  obtain ⟨w1, hw1⟩ : ∃ x, x = w.alloc (.cells #[.int .i64 3] 3) := ⟨_, rfl⟩
  have HW1 := Lib.hid hw1
  rw [← hw1] at hb1 hx1 hs1
  have hb2 : Below w1.heap.size w1 (w1.alloc (.cells (va.vals ++ vb.vals).toArray 57)) := (Below.refl _ _).alloc (Nat.le_refl _) _
  have hx2 := heap_alloc_new w1 (.cells (va.vals ++ vb.vals).toArray 57)
  have hs2 : (w1.alloc (.cells (va.vals ++ vb.vals).toArray 57)).heap.size = w1.heap.size + 1 := by simp
  obtain ⟨w2, hw2⟩ : ∃ x, x = w1.alloc (.cells (va.vals ++ vb.vals).toArray 57) := ⟨_, rfl⟩
  have HW2 := Lib.hid (show w2 = w1.alloc (.cells #[.string ⟨#[97]⟩, .bool true, .slice none 0 0, .int .u64 0, .int .i64 0, .string ⟨#[98]⟩, .bool false, .slice (some ⟨w.heap.size, 0, none⟩) 1 1, .int .u64 9, .int .i64 2] 57) from by rw [hw2, hva, hvb]; rfl)
  rw [← hw2] at hb2 hx2 hs2
  rw [hs1] at hx2 hs2
  have hb3 : Below w2.heap.size w2 (w2.alloc (.cells #[.int .u64 7, .slice (some ⟨w.heap.size + 1, 0, none⟩) 2 2] 25)) := (Below.refl _ _).alloc (Nat.le_refl _) _
  have hx3 := ReB.new (w := w2) (st := 7) (A := some ⟨w.heap.size + 1, 0, none⟩) (n := 2) (c := 2)
  obtain ⟨w3, hw3⟩ : ∃ x, x = w2.alloc (.cells #[.int .u64 7, .slice (some ⟨w.heap.size + 1, 0, none⟩) 2 2] 25) := ⟨_, rfl⟩
  have HW3 := Lib.hid hw3
  have hx3 : ReB w3 w2.heap.size 7 (some ⟨w.heap.size + 1, 0, none⟩) 2 2 := by rw [hw3]; exact hx3
  rw [← hw3] at hb3
  rw [hs2] at hx3
  have hbc := hb1.trans (hb2.mono hb1.size)
  have hbd := hbc.trans (hb3.mono hbc.size)
  have hN3 := hN.keep hbd
  have hva2 : va.Ok w3 := by rw [hva]; exact Sl.nil _ _ _ (by decide)
  have hvb2 : vb.Ok w3 := by
    rw [hvb]
    have h0 : Sl w1 1 (some ⟨w.heap.size, 0, none⟩) 1 1 (icells [3]) := ⟨rfl, Nat.le_refl _, by decide, fun j u hu => by
      have hj : j < 1 := (List.getElem?_eq_some_iff.1 hu).1
      obtain rfl : j = 0 := by omega
      exact ⟨w.heap.size, 0, rfl, by rw [cell_of_row _ _ _ _ _ _ hx1]; exact hu⟩⟩
    exact (h0.below hb2 (Nat.le_refl _)).below hb3 (Nat.le_refl _)
  have hch : Chs w3 (some ⟨w.heap.size + 1, 0, none⟩) 2 2 [va, vb] := ex_chs (k := 0) ((hb3.block _ (by omega)).trans hx2) hva2 hvb2
  have hm : [va, vb].map CvF.x = [exA, exB] := by rw [hva, hvb]; rfl
  have hpr := putRecord_yes 7 (by decide) (some ⟨w.heap.size + 1, 0, none⟩) 2 2 [va, vb] w3 hch (by rw [hm]; exact ex_ok) (fun v hv => by
    have hx : v.x ∈ [exA, exB] := by rw [← hm]; exact List.mem_map_of_mem hv
    simp only [List.mem_cons, List.not_mem_nil, or_false] at hx
    rcases hx with h | h <;> rw [h] <;> decide)
  rw [hm, ex_put] at hpr
  have X := Lib.hid hx3
  have BT3 := Lib.hid hbd
  have N3 := Lib.hid hN3
  have CH := Lib.hid hch
  have HM := Lib.hid hm
  clear hb1 hx1 hs1 hw1 hb2 hx2 hs2 hw2 hb3 hx3 hw3 hbc hbd hN3 hva2 hvb2 hch hm hva hvb hN
  go_enter Tryd.func8, Tryd.ntmps8
  go_wp2_with fail
  rw [← HW1.out, ← HW2.out, ← HW3.out]
  refine hpr.mono ?_; clear hpr; rintro e w4 ⟨A4, n4, c4, rfl, hs4, hb4⟩
  have hl4 : n4 = 12 := by have := hs4.len; rw [cells_length] at this; simpa [exL17] using this.symm
  subst hl4
  have hgr := getRecord17 A4 12 c4 exL17 w4 hs4 (by decide)
  rw [ex_get] at hgr
  have BT4 := Lib.hid (BT3.out.trans (hb4.mono BT3.out.size))
  have X4 := Lib.hid (X.out.later hb4)
  have N4 := Lib.hid (N3.out.keep hb4)
  have C4 := Lib.hid (CH.out.below hb4)
  have S4 := Lib.hid hs4
  clear hb4 hs4
  go_wp2_with fail
  refine hgr.mono ?_; clear hgr; rintro e w5 ⟨CA, cc, vs, rfl, hvs, hcv, hb5⟩
  have hvl : vs.length = 2 := by have := congrArg List.length hvs; simpa using this
  have hcv2 : Chs w5 CA 2 cc vs := hvl ▸ hcv
  rw [hvl]
  clear hcv
  have hx6 := ReB.new (w := w5) (st := 7) (A := CA) (n := 2) (c := cc)
  have hb6 : Below w5.heap.size w5 (w5.alloc (.cells #[.int .u64 7, .slice CA 2 cc] 25)) := (Below.refl _ _).alloc (Nat.le_refl _) _
  obtain ⟨w6, hw6⟩ : ∃ x, x = w5.alloc (.cells #[.int .u64 7, .slice CA 2 cc] 25) := ⟨_, rfl⟩
  have HW6 := Lib.hid hw6
  have hx6 : ReB w6 w5.heap.size 7 CA 2 cc := by rw [hw6]; exact hx6
  rw [← hw6] at hb6
  have hb56 := hb5.trans (hb6.mono hb5.size)
  have BT6 := Lib.hid (BT4.out.trans (hb56.mono BT4.out.size))
  have X6 := Lib.hid (X4.out.later hb56)
  have N6 := Lib.hid (N4.out.keep hb56)
  have C6 := Lib.hid (C4.out.below hb56)
  have S6 := Lib.hid (S4.out.below hb56 (Nat.le_refl _))
  have Y6 := Lib.hid hx6
  have D6 := Lib.hid (hcv2.below hb6)
  have HVS := Lib.hid hvs
  clear hb5 hb6 hb56 hx6 hcv2 hvs hvl hw6
  go_wp2_with (rw [← HW6.out])
  refine (cut17_any none 0 0 [] 8 1 rfl (by decide) (by decide) w6 (Sl.nil _ _ _ (by decide)) (by decide) N6.out).mono ?_; rintro e w7 ⟨g, k, rfl, hgm, hb7⟩
  obtain ⟨r, hr, hrl, hr3⟩ := ex_cut
  have hgr := hgm.gr
  rw [hr] at hgr
  obtain rfl : k = 1 := hgr.len.symm
  have G7 := Lib.hid hgr
  have BT7 := Lib.hid (BT6.out.trans (hb7.mono BT6.out.size))
  have X7 := Lib.hid (X6.out.later hb7)
  have N7 := Lib.hid (N6.out.keep hb7)
  have C7 := Lib.hid (C6.out.below hb7)
  have S7 := Lib.hid (S6.out.below hb7 (Nat.le_refl _))
  have Y7 := Lib.hid (Y6.out.later hb7)
  have D7 := Lib.hid (D6.out.below hb7)
  have HRL := Lib.hid hrl
  have HR3 := Lib.hid hr3
  clear hgm hgr hr hb7 hrl hr3
  go_wp2_with fail
  have hjo := join17_any none 0 0 [] w7 (Gr.nil _ _ (by decide)) (by decide) (by decide) N7.out
  rw [show joinF [] = ([], 0, 170) from rfl] at hjo
  refine hjo.mono ?_; clear hjo; rintro e w8 ⟨JA, jc, rfl, hsj, hb8, hlj⟩
  have G8 := Lib.hid (G7.out.later hb8)
  have BT8 := Lib.hid (BT7.out.trans (hb8.mono BT7.out.size))
  have X8 := Lib.hid (X7.out.later hb8)
  have C8 := Lib.hid (C7.out.below hb8)
  have S8 := Lib.hid (S7.out.below hb8 (Nat.le_refl _))
  have Y8 := Lib.hid (Y7.out.later hb8)
  have D8 := Lib.hid (D7.out.below hb8)
  clear hb8 hlj hsj
  go_wp2_with (first | (refine at_dst17 (d := 43) ?_; refine wpList_step17 (o := ⟨some 43, _, _, _, _, _⟩) (by rfl) _ _ (step_loadRe rfl rfl Y8.out) ?_) | (refine at_dst17 (d := 44) ?_; refine wpList_step17 (o := ⟨some 44, _, _, _, _, _⟩) (by rfl) _ _ (step_loadRe rfl rfl X8.out) ?_))
  refine (rsame_rec 7 CA 2 cc vs (some ⟨w.heap.size + 1, 0, none⟩) 2 [va, vb] w8 D8.out C8.out (by rw [HM.out, HVS.out])).mono ?_; rintro e w9 ⟨rfl, hb9⟩
  have BT9 := Lib.hid (BT8.out.trans (hb9.mono BT8.out.size))
  have hs9 := S8.out.below hb9 (Nat.le_refl _)
  obtain ⟨b, o, hbo, hc9⟩ := (G8.out.later hb9).at_ (by decide)
  injection hbo with hbo
  injection hbo with hbg hbo
  subst hbg hbo
  obtain ⟨A9, c9, e9, h9⟩ := hc9 0 r rfl
  rw [HRL.out] at e9 h9
  obtain ⟨b9, o9, rfl, _⟩ := h9.at_ (k := 0) (by decide)
  have h93 := h9.sub1 0 3 c9 (by decide) (by decide) (by have := h9.cap; omega) h9.top
  rw [List.drop_zero, HR3.out] at h93
  have hc79 := h9.cap
  have hn3 : ¬ (c9 : Int) < 3 := by omega
  have q1 : (convert 26 9 (.slice A4 12 c4)).run Tryd.prog w9 = .ok (.string ⟨#[7, 2, 1, 97, 1, 1, 98, 0, 2, 9, 1, 3]⟩) w9 := str_of hs9
  have q2 : (convert 26 9 (.slice (some ⟨b9, o9, none⟩) 3 c9)).run Tryd.prog w9 = .ok (.string ⟨#[3, 0, 0]⟩) w9 := str_of h93
  clear hs9 hb9 hc9 h9 h93
  go_wp2_with fail
  go_ret
  exact ⟨rfl, BT9.out⟩
end Go.Proofs.YtpijfghklgmefaaDoor
