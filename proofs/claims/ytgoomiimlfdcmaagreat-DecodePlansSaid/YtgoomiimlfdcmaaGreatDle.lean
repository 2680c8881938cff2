/-
  The contract of package decode's rowsOf: how these shards come of the data, a row each. Condition: the coder is one that New made.
-/
import Derived.Test.YtgoomiimlfdcmaaGreatDld
import Derived.Test.YtgoomiimlfdcmaaGreatCca
import Derived.Test.YtgoomiimlfdcmaaGreatDkb
namespace Go.Proofs.YtgoomiimlfdcmaaGreat
open Go.RowKit Go.Proofs
set_option linter.unusedVariables false

/-- The factors of these shards. -/
def facM (k : Nat) (t : List Nat) : Mx := fun a j => facB k (t.getD a 0) j
theorem tabL_row (R D : Nat) (f : Nat → Nat → UInt8) : tabL R D f ++ (List.range D).map (f R) = tabL (R + 1) D f := by
  unfold tabL
  rw [Nat.add_mul, Nat.one_mul, List.range_add, List.map_append]
  congr 1
  rw [List.map_map]
  apply List.map_congr_left
  intro j hj
  have h := idx_div (i := R) (List.mem_range.1 hj)
  show f R j = f ((R * D + j) / D) ((R * D + j) % D)
  rw [h.1, h.2]

set_option maxRecDepth 20000 in
set_option maxHeartbeats 1600000 in
theorem drowsOf_any (C k m F T : Nat) (B : Option Addr) (q d : Nat) (t : List Nat) (w : World) (h : Cod w C k m F T) (hs : Sl w 1 B q d (ncells t)) (ht : ∀ a, a < q → t.getD a 0 < k + m) (hq : q ≤ 255) :
    Calls Tryz.prog 62 #[.pointer (some ⟨C, 0, none⟩), .slice B q d] w fun e w' => (∃ A c, e = .returned (.agg #[.int .i64 (q : Int), .int .i64 (k : Int), .slice A (q * k) c]) ∧ Grow w' w.heap.size A (q * k) c (tabL q k (facM k t))) ∧ Below w.heap.size w w' := by
  have h3 := h.n255
  have hk1 := h.k1
  have hqk : q * k ≤ 255 * 255 := Nat.mul_le_mul hq (by omega)
  have htl : t.length = q := by
    have := hs.len
    rw [ncells_length] at this
    omega
  have H := Lib.hid h; clear h
  have Hs := Lib.hid hs; clear hs
  have Ht := Lib.hid ht; clear ht
  have Htl := Lib.hid htl; clear htl
  have Hqk := Lib.hid hqk; clear hqk
  go_enter Tryz.func62, Tryz.ntmps62
  go_wp2_with fail
  go_loopw [5, 10] (fun v i wr => ∃ (r p : Nat) (A : Option Addr) (c : Nat), r ≤ q ∧ p = r * k ∧ i = .int .i64 (r : Int) ∧ v = .slice A p c ∧ Below w.heap.size w wr ∧ w.heap.size + 1 ≤ wr.heap.size ∧
      wr.heap[w.heap.size]? = some (.cells #[.int .i64 0, .int .i64 0, .slice none 0 0] 112 (0, 0)) ∧ Grow wr (w.heap.size + 1) A p c (tabL r k (facM k t))) (fun _ i _ => q - (intOf i).toNat)
  case atStart =>
    exact ⟨0, 0, none, 0, by omega, by simp, rfl, rfl, (Below.refl _ _).alloc (Nat.le_refl _) _, by simp, heap_alloc_new w _, by simpa [tabL] using Grow.nil (w.alloc (.cells #[.int .i64 0, .int .i64 0, .slice none 0 0] 112)) (w.heap.size + 1)⟩
  case round =>
    obtain ⟨r, p, A, c, hr, hp, rfl, rfl, hb, hsz, hr0, ho⟩ := hrel
    have Hp := Lib.hid hp; clear hp
    have Ho := Lib.hid ho; clear ho
    have Hr0 := Lib.hid hr0; clear hr0
    have Hb := Lib.hid hb; clear hb
    by_cases hlt : r < q
    · have hrl : r < t.length := by rw [Htl.out]; exact hlt
      obtain ⟨b1, o1, rfl, hc⟩ := (Hs.out.below Hb.out (Nat.le_refl _)).at_ hlt
      have hcell := hc r _ (ncells_get t r hrl)
      rw [show t[r] = t.getD r 0 from by simp [hrl]] at hcell
      clear hc
      have hx3 := Ht.out r hlt
      have hrow : (List.range k).map (facM k t r) = rowC k (t.getD r 0) := rfl
      obtain ⟨x, hx⟩ : ∃ x, x = t.getD r 0 := ⟨_, rfl⟩
      rw [← hx] at hcell hx3 hrow
      have hh := crow_at C k m F T (x : Int) x rfl hx3 wr (H.out.later Hb.out)
      have Hrow := Lib.hid hrow; clear hrow hx
      go_wp2_with fail
      refine hh.mono ?_; clear hh; rintro e w2 ⟨Ac, nc, cc, rfl, hsc, hb2⟩
      have hnc : nc = k := by
        have := hsc.len
        rw [cells_length, rowC_length] at this
        omega
      subst hnc
      have hs2 := hb2.size
      have Hb2 := Lib.hid hb2
      have Hsc := Lib.hid hsc; clear hsc hb2
      have hpk : p + nc ≤ 65025 := by
        have h1 : (r + 1) * nc ≤ q * nc := Nat.mul_le_mul_right _ hlt
        rw [Nat.add_mul, Nat.one_mul] at h1
        have := Hp.out
        have := Hqk.out
        omega
      go_wp2_with (at_builtin; refine wpList_append_bm (B := w.heap.size + 1) rfl (.tmp 14) (.tmp 17) rfl rfl (Ho.out.below Hb2.out).own ?pa Ac nc cc (rowC nc x) rfl Hsc.out ?pb ?pc)
      case pa => omega
      case pb => omega
      intro A3 c3 w4 ho4 hb4 hrow4
      have hbw : Below (w.heap.size + 1) wr w4 := (Hb2.out.mono hsz).trans hb4
      have hr4 := (hbw.block w.heap.size (by omega)).trans Hr0.out
      have G4 : Grow w4 (w.heap.size + 1) A3 (p + nc) c3 (tabL (r + 1) nc (facM nc t)) := by
        rw [← tabL_row, Hrow.out]
        exact ⟨by rw [cells_append]; exact ho4, fun h => by rw [cells_append]; exact hrow4 (by omega)⟩
      have HG := Lib.hid G4
      have H4 := Lib.hid hr4
      have Hbw := Lib.hid (Hb.out.trans (hbw.mono (by omega)))
      have hs4 := hbw.size
      clear G4 ho4 hrow4 hr4 hbw hb4
      go_wp2_with fail
      go_roundw
      case rel => exact ⟨r + 1, p + nc, A3, c3, by omega, by rw [Nat.add_mul, Nat.one_mul, Hp.out], by go_num, rfl, Hbw.out, by omega, H4.out, HG.out⟩
      case measure => simp [intOf]; omega
    · obtain rfl : r = q := by omega
      have hk := ck_any C k m F T wr (H.out.later Hb.out)
      go_wp2_with fail
      refine hk.mono ?_; clear hk; rintro e w2 ⟨rfl, rfl⟩
      have r0 : w2.cell? ⟨w.heap.size, 0, none⟩ = some (.int .i64 0) := by rw [cell_of_row _ _ _ _ _ _ Hr0.out]; rfl
      have r1 : w2.cell? ⟨w.heap.size, 1, none⟩ = some (.int .i64 0) := by rw [cell_of_row _ _ _ _ _ _ Hr0.out]; rfl
      have r2 : w2.cell? ⟨w.heap.size, 2, none⟩ = some (.slice none 0 0) := by rw [cell_of_row _ _ _ _ _ _ Hr0.out]; rfl
      have y0 : w2.frozen? ⟨w.heap.size, 0, none⟩ = false := frozen_of_row _ _ _ _ _ Hr0.out
      have y1 : w2.frozen? ⟨w.heap.size, 1, none⟩ = false := frozen_of_row _ _ _ _ _ Hr0.out
      have y2 : w2.frozen? ⟨w.heap.size, 2, none⟩ = false := frozen_of_row _ _ _ _ _ Hr0.out
      go_wp2_with fail
      have e0 := heap_setCell_same w2 w.heap.size 0 _ _ (.int .i64 (r : Int)) Hr0.out
      have e1 := heap_setCell_same _ w.heap.size 1 _ _ (.int .i64 (k : Int)) e0
      have e2 := heap_setCell_same _ w.heap.size 2 _ _ (.slice A p c) e1
      refine bodyPost_ret (results_cell_row Tryz.results62 _ _ w.heap.size 112 _ (0, 0) _ rfl e2 Tryz.underlying112 rfl size_matrix) rfl ?_
      have hs := ((Ho.out.set (p := ⟨w.heap.size, 0, none⟩) (by simp) (.int .i64 (r : Int))).set (p := ⟨w.heap.size, 1, none⟩) (by simp) (.int .i64 (k : Int))).set (p := ⟨w.heap.size, 2, none⟩) (by simp) (.slice A p c)
      rw [← Hp.out]
      exact ⟨⟨A, c, rfl, hs.lower (by omega)⟩, ((Hb.out.setCell (Nat.le_refl _) _).setCell (Nat.le_refl _) _).setCell (Nat.le_refl _) _⟩
end Go.Proofs.YtgoomiimlfdcmaaGreat
