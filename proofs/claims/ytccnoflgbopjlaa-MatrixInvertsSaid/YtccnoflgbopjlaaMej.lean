/-
  The document's Identity in new memory; of a matrix's rows. No condition.
-/
import Derived.Test.YtccnoflgbopjlaaMei
namespace Go.Proofs.Ytccnoflgbopjlaa
open Go.RowKit Go.Proofs
set_option linter.unusedVariables false

set_option maxRecDepth 20000 in
set_option maxHeartbeats 800000 in
theorem ridentity_grow (N : Nat) (h1 : 1 ≤ N) (h2 : N ≤ 255) (w : World) :
    Calls Try.prog 19 #[.int .i64 (N : Int)] w fun e w' => ∃ A c, e = .returned (.tuple #[.agg #[.int .i64 (N : Int), .int .i64 (N : Int), .slice A (N * N) c], .int .i64 0]) ∧ Grow w' w.heap.size A (N * N) c (tabL N N one) ∧ Below w.heap.size w w' := by
  have hNN : N * N ≤ 255 * 255 := Nat.mul_le_mul h2 h2
  obtain ⟨K, hK⟩ : ∃ K, K = N * N := ⟨_, rfl⟩
  have hKi : (N : Int) * (N : Int) = (K : Int) := by rw [hK]; simp
  have hlt : ¬ (N : Int) < 1 := by omega
  have hgt : ¬ (255 : Int) < (N : Int) := by omega
  rw [← hK] at hNN ⊢
  have HK := Lib.hid hK; clear hK
  go_enter Try.func19, Try.ntmps19
  go_wp2_with fail
  go_loopw [5] (fun i wr => ∃ (k : Nat) (A' : Option Addr) (c' : Nat), k ≤ K ∧ i = .int .i64 (k : Int) ∧ Below w.heap.size w wr ∧ w.heap.size + 2 ≤ wr.heap.size ∧
      wr.heap[w.heap.size]? = some (.cells #[.int .i64 0, .int .i64 0, .slice none 0 0] 24 (0, 0)) ∧
      wr.heap[w.heap.size + 1]? = some (.cells #[.int .i64 (N : Int), .int .i64 (N : Int), .slice A' k c'] 24 (0, 0)) ∧
      Grow wr (w.heap.size + 2) A' k c' ((tabL N N one).take k)) (fun i _ => K - (intOf i).toNat)
  case atStart => exact ⟨0, none, 0, by omega, rfl, ((Below.refl _ _).alloc (Nat.le_refl _) _).alloc (by simp) _, by simp, (Below.heap_alloc _ _ _ (by simp)).trans (heap_alloc_new w _), by have := heap_alloc_new (w.alloc (.cells #[.int .i64 0, .int .i64 0, .slice none 0 0] 24)) (.cells #[.int .i64 (N : Int), .int .i64 (N : Int), .slice none 0 0] 24); simpa using this, Grow.nil _ _⟩
  case round =>
    obtain ⟨k, A', c', hk, rfl, hb, hsz, hr0, hr1, ho⟩ := hrel
    have Ho := Lib.hid ho; clear ho
    have m0 : wr.cell? ⟨w.heap.size + 1, 0, none⟩ = some (.int .i64 (N : Int)) := by rw [cell_of_row _ _ _ _ _ _ hr1]; rfl
    have m1 : wr.cell? ⟨w.heap.size + 1, 1, none⟩ = some (.int .i64 (N : Int)) := by rw [cell_of_row _ _ _ _ _ _ hr1]; rfl
    have m2 : wr.cell? ⟨w.heap.size + 1, 2, none⟩ = some (.slice A' k c') := by rw [cell_of_row _ _ _ _ _ _ hr1]; rfl
    have z2 : wr.frozen? ⟨w.heap.size + 1, 2, none⟩ = false := frozen_of_row _ _ _ _ _ hr1
    have Hr0 := Lib.hid hr0; clear hr0
    have Hr1 := Lib.hid hr1; clear hr1
    by_cases hlt : k < K
    · have hx := tabL_snoc N N one k (by rw [← HK.out]; exact hlt)
      have Hx := Lib.hid hx; clear hx
      have hkN : k / N ≤ k := Nat.div_le_self _ _
      have hdv : wrap64 ((k : Int) / (N : Int)) = ((k / N : Nat) : Int) := by
        rw [show (k : Int) / (N : Int) = ((k / N : Nat) : Int) from by simp]
        generalize k / N = y at hkN
        unfold wrap64
        omega
      have hmd : (k : Int) % (N : Int) = ((k % N : Nat) : Int) := by simp
      obtain ⟨d, hd⟩ : ∃ d, d = k / N := ⟨_, rfl⟩
      obtain ⟨m, hm⟩ : ∃ m, m = k % N := ⟨_, rfl⟩
      rw [← hd] at hdv
      rw [← hm] at hmd
      rw [← hd, ← hm] at Hx
      clear hd hm hkN
      by_cases he : d = m
      · have hq : (((d : Nat) : Int) == (m : Int)) = true := by simp [he]
        have Hone := Lib.hid (show one d m = 1 from if_pos he); clear he
        go_wp2_with fail
        go_quiet (fail)
        have hbw0 : Below wr.heap.size wr ((wr.drewN nq).alloc (.cells #[.int .u8 1] 5)) := (below_drewN (Below.refl _ _) nq).alloc (Nat.le_refl _) _
        go_wp2_with (at_builtin; refine wpList_append_bm (B := w.heap.size + 2) rfl (.tmp 32) (.tmp 34) rfl rfl (Ho.out.below hbw0).own ?pa (some ⟨wr.heap.size, 0, none⟩) 1 1 [1] rfl (Sl.one _ _ _ _ rfl) ?pb ?pc)
        case pa => simp; omega
        case pb => omega
        intro A2 c2 w2 ho2 hb2 hrow2
        have hbw : Below (w.heap.size + 2) wr w2 := (hbw0.mono hsz).trans hb2
        have m2' := (hbw.cell (p := ⟨w.heap.size + 1, 2, none⟩) (by simp)).trans m2
        have z2' := (hbw.frozen (p := ⟨w.heap.size + 1, 2, none⟩) (by simp)).trans z2
        have hr1' := (hbw.block (w.heap.size + 1) (by omega)).trans Hr1.out
        have hr0' := (hbw.block w.heap.size (by omega)).trans Hr0.out
        have hx2 := Hx.out
        rw [Hone.out] at hx2
        have G2 : Grow w2 (w.heap.size + 2) A2 (k + 1) c2 ((tabL N N one).take (k + 1)) := by
          rw [← hx2]
          exact ⟨by rw [cells_append]; exact ho2, fun _ => by rw [cells_append]; exact hrow2⟩
        have HG := Lib.hid G2; clear G2 ho2 hrow2 hx2
        have H0 := Lib.hid hr0'; clear hr0'
        have H1 := Lib.hid hr1'; clear hr1'
        go_wp2_with fail
        go_roundw
        case rel =>
          refine ⟨k + 1, A2, c2, by omega, by go_num, (hb.trans (hbw.mono (by omega))).setCell (by simp) _, by have := hbw.size; simp; omega, (Below.heap_setCell _ _ _ _ (by simp)).trans H0.out, ?_, HG.out.set (by simp) _⟩
          rw [heap_setCell_same _ _ _ _ _ _ H1.out]
          rfl
        case measure => simp [intOf]; omega
      · have hq : (((d : Nat) : Int) == (m : Int)) = false := by simp; omega
        have Hone := Lib.hid (show one d m = 0 from if_neg he); clear he
        go_wp2_with fail
        go_quiet (fail)
        have hbw0 : Below wr.heap.size wr ((wr.drewN nq).alloc (.cells #[.int .u8 0] 5)) := (below_drewN (Below.refl _ _) nq).alloc (Nat.le_refl _) _
        go_wp2_with (at_builtin; refine wpList_append_bm (B := w.heap.size + 2) rfl (.tmp 32) (.tmp 34) rfl rfl (Ho.out.below hbw0).own ?qa (some ⟨wr.heap.size, 0, none⟩) 1 1 [0] rfl (Sl.one _ _ _ _ rfl) ?qb ?qc)
        case qa => simp; omega
        case qb => omega
        intro A2 c2 w2 ho2 hb2 hrow2
        have hbw : Below (w.heap.size + 2) wr w2 := (hbw0.mono hsz).trans hb2
        have m2' := (hbw.cell (p := ⟨w.heap.size + 1, 2, none⟩) (by simp)).trans m2
        have z2' := (hbw.frozen (p := ⟨w.heap.size + 1, 2, none⟩) (by simp)).trans z2
        have hr1' := (hbw.block (w.heap.size + 1) (by omega)).trans Hr1.out
        have hr0' := (hbw.block w.heap.size (by omega)).trans Hr0.out
        have hx2 := Hx.out
        rw [Hone.out] at hx2
        have G2 : Grow w2 (w.heap.size + 2) A2 (k + 1) c2 ((tabL N N one).take (k + 1)) := by
          rw [← hx2]
          exact ⟨by rw [cells_append]; exact ho2, fun _ => by rw [cells_append]; exact hrow2⟩
        have HG := Lib.hid G2; clear G2 ho2 hrow2 hx2
        have H0 := Lib.hid hr0'; clear hr0'
        have H1 := Lib.hid hr1'; clear hr1'
        go_wp2_with fail
        go_roundw
        case rel =>
          refine ⟨k + 1, A2, c2, by omega, by go_num, (hb.trans (hbw.mono (by omega))).setCell (by simp) _, by have := hbw.size; simp; omega, (Below.heap_setCell _ _ _ _ (by simp)).trans H0.out, ?_, HG.out.set (by simp) _⟩
          rw [heap_setCell_same _ _ _ _ _ _ H1.out]
          rfl
        case measure => simp [intOf]; omega
    · obtain rfl : k = K := by omega
      have r0 : wr.cell? ⟨w.heap.size, 0, none⟩ = some (.int .i64 0) := by rw [cell_of_row _ _ _ _ _ _ Hr0.out]; rfl
      have r1 : wr.cell? ⟨w.heap.size, 1, none⟩ = some (.int .i64 0) := by rw [cell_of_row _ _ _ _ _ _ Hr0.out]; rfl
      have r2 : wr.cell? ⟨w.heap.size, 2, none⟩ = some (.slice none 0 0) := by rw [cell_of_row _ _ _ _ _ _ Hr0.out]; rfl
      have y0 : wr.frozen? ⟨w.heap.size, 0, none⟩ = false := frozen_of_row _ _ _ _ _ Hr0.out
      have y1 : wr.frozen? ⟨w.heap.size, 1, none⟩ = false := frozen_of_row _ _ _ _ _ Hr0.out
      have y2 : wr.frozen? ⟨w.heap.size, 2, none⟩ = false := frozen_of_row _ _ _ _ _ Hr0.out
      go_wp2_with fail
      have e0 := heap_setCell_same wr w.heap.size 0 _ _ (.int .i64 (N : Int)) Hr0.out
      have e1 := heap_setCell_same _ w.heap.size 1 _ _ (.int .i64 (N : Int)) e0
      have e2 := heap_setCell_same _ w.heap.size 2 _ _ (.slice A' k c') e1
      refine bodyPost_ret (results_cell_pair Try.results19 _ _ w.heap.size 24 _ (0, 0) _ rfl e2 Try.underlying24 rfl size_matrix) rfl ?_
      refine ⟨A', c', rfl, ?_, ((hb.setCell (Nat.le_refl _) _).setCell (Nat.le_refl _) _).setCell (Nat.le_refl _) _⟩
      have hs := ((((Ho.out.set (p := ⟨w.heap.size, 0, none⟩) (by simp) (.int .i64 (N : Int))).set (p := ⟨w.heap.size, 1, none⟩) (by simp) (.int .i64 (N : Int))).set (p := ⟨w.heap.size, 2, none⟩) (by simp) (.slice A' k c')))
      rw [List.take_of_length_le (by rw [tabL_length, ← HK.out]; exact Nat.le_refl _)] at hs
      exact hs.lower (by omega)

theorem rid_of {m : M3} {n : Nat} {f : Mx} (hM : m.Is n n f) (w : World) :
    Calls Try.prog 19 #[.int .i64 m.r] w (RetN (fun o x => o.Is n n one ∧ x = 0) w) := by
  rw [hM.r]
  refine (ridentity_grow n hM.r1 hM.r2 w).mono ?_; rintro e w' ⟨A, c, rfl, hg, hb⟩
  refine ⟨⟨M3.of n n one, A, c, 0, ?_, ?_, M3.is_of hM.r1 hM.r2 hM.r1 hM.r2, rfl⟩, hb⟩
  · show Ending.returned _ = Ending.returned (.tuple #[.agg #[.int .i64 (n : Int), .int .i64 (n : Int), .slice A (tabL n n one).length c], .int .i64 0])
    rw [tabL_length]
  · show Grow w' w.heap.size A (tabL n n one).length c (tabL n n one)
    rw [tabL_length]; exact hg
end Go.Proofs.Ytccnoflgbopjlaa
