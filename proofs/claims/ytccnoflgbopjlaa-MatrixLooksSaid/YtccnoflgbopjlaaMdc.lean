/-
  Contracts of package matrix's build, whatever function is handed in, and of Identity. Condition: the function handed in answers what stands at each place, and turns nothing below.
-/
import Derived.Test.YtccnoflgbopjlaaMda
import Derived.Deep.LoopGhost
namespace Go.Proofs.Ytccnoflgbopjlaa
open Go.RowKit
set_option linter.unusedVariables false

/-- Function g with what it captured answers f i j at each place, in whatever world in which all that lay in w lies; below, nothing turns. -/
def Tells (g : Nat) (caps : Array Value) (R C : Nat) (f : Nat → Nat → UInt8) (w : World) : Prop :=
  ∀ (W : World) (i j : Nat), i < R → j < C → Below w.heap.size w W → Calls Try.prog g (#[.int .i64 (i : Int), .int .i64 (j : Int)] ++ caps) W fun e w' => e = .returned (.int .u8 ((f i j).toNat : Int)) ∧ Below W.heap.size W w'

/-- What a call answers that makes a matrix: its numbers lie in new memory. -/
def RetMx (R C : Nat) (l : List UInt8) (w : World) (v : Value) (w' : World) : Prop := ∃ A c, v = .agg #[.int .i64 (R : Int), .int .i64 (C : Int), .slice A (R * C) c] ∧ Grow w' w.heap.size A (R * C) c l

/-- make([]byte, 0, z) for a number that is no greater than 2 to the 30. -/
theorem make0_eq (z : Int) (k : Nat) (hz : z = (k : Int)) (hk : k ≤ 1073741824) (w : World) :
    (Instr.makeSlice 22 (.int .i64 0) (.int .i64 z)).run Try.prog w = .ok (.slice (some ⟨w.heap.size, 0, none⟩) 0 k) (w.alloc (.cells (madeCells #[.int .u8 0] k) 5)) := by
  obtain ⟨i0, hi, hz0, hz1, hz2⟩ := info_parts info_u8
  subst hz
  have h := run_make (P := Try.prog) w 22 5 i0 (.int .u8 0) Try.underlying22 hi hz0 .i64 .i64 (0 : Int) (k : Int) (by omega) (by omega) (by rw [hz2]; omega) (by omega)
  rw [hz1, Nat.mul_one, Int.toNat_natCast] at h
  exact h
theorem Grow.made0 (w : World) (k : Nat) (hk : k ≤ maxLen) : Grow (w.alloc (.cells (madeCells #[.int .u8 0] k) 5)) w.heap.size (some ⟨w.heap.size, 0, none⟩) 0 k [] := by
  refine ⟨⟨Sl.empty _ 1 _ k hk, .inr ⟨by simp [cells], .inr ⟨w.heap.size, k, _, rfl, Nat.le_refl _, heap_alloc_new w _, Nat.zero_le _, hk, ?_, by simp [cells]⟩⟩⟩, fun h => absurd h (by omega)⟩
  rw [size_madeCells, Nat.mul_one]

theorem Grow.lower {w : World} {B B' k c : Nat} {A : Option Addr} {l : List UInt8} (h : Grow w B A k c l) (hB : B' ≤ B) : Grow w B' A k c l := ⟨h.own.lower hB, fun h0 => (h.row h0).mono hB⟩

set_option maxRecDepth 20000 in
set_option maxHeartbeats 1600000 in
theorem build_any (R C : Nat) (hR : R ≤ 255) (hC : C ≤ 255) (g : Nat) (eg : ∀ args w, (callFunc g args).run Try.prog w = .ok (.enter g args) w) (caps : Array Value) (f : Nat → Nat → UInt8) (w : World) (ht : Tells g caps R C f w) :
    Calls Try.prog 33 #[.int .i64 (R : Int), .int .i64 (C : Int), .func (.func g) #[] caps] w fun e w' => ∃ v, e = .returned v ∧ RetMx R C (tabL R C f) w v w' ∧ Below w.heap.size w w' := by
  have hRC : R * C ≤ 255 * 255 := Nat.mul_le_mul hR hC
  obtain ⟨K, hK⟩ : ∃ K, K = R * C := ⟨_, rfl⟩
  have hKi : (R : Int) * (C : Int) = (K : Int) := by rw [hK]; simp
  rw [← hK] at hRC
  have hmk := make0_eq (K : Int) K rfl (by omega)
  have HK := Lib.hid hK; clear hK
  have Ht := Lib.hid ht; clear ht
  go_enter Try.func33, Try.ntmps33
  go_wp2_with fail
  go_loopw [7, 15] (fun v i wr => ∃ (r : Nat) (A : Option Addr) (c : Nat), r ≤ R ∧ i = .int .i64 (r : Int) ∧ v = .slice A (r * C) c ∧ Below w.heap.size w wr ∧ w.heap.size + 1 ≤ wr.heap.size ∧
      wr.heap[w.heap.size]? = some (.cells #[.int .i64 0, .int .i64 0, .slice none 0 0] 24 (0, 0)) ∧ Grow wr (w.heap.size + 1) A (r * C) c ((tabL R C f).take (r * C))) (fun _ i _ => R - (intOf i).toNat)
  case atStart =>
    have hg := Grow.made0 (w.alloc (.cells #[.int .i64 0, .int .i64 0, .slice none 0 0] 24)) K (by unfold maxLen; omega)
    exact ⟨0, some ⟨w.heap.size + 1, 0, none⟩, K, by omega, rfl, by simp, ((Below.refl _ _).alloc (Nat.le_refl _) _).alloc (by simp) _, by simp, (Below.heap_alloc _ _ _ (by simp)).trans (heap_alloc_new w _), by simpa using hg⟩
  case round =>
    obtain ⟨r, A, c, hr, rfl, rfl, hb, hsz, hr0, ho⟩ := hrel
    have Ho := Lib.hid ho; clear ho
    have Hr0 := Lib.hid hr0; clear hr0
    by_cases hlt : r < R
    · go_wp2_with fail
      go_loopw [7, 19] (fun v j wi => ∃ (k : Nat) (A : Option Addr) (c : Nat), k ≤ C ∧ j = .int .i64 (k : Int) ∧ v = .slice A (r * C + k) c ∧ Below w.heap.size w wi ∧ w.heap.size + 1 ≤ wi.heap.size ∧
          wi.heap[w.heap.size]? = some (.cells #[.int .i64 0, .int .i64 0, .slice none 0 0] 24 (0, 0)) ∧ Grow wi (w.heap.size + 1) A (r * C + k) c ((tabL R C f).take (r * C + k))) (fun _ j _ => C - (intOf j).toNat)
      case atStart => exact ⟨0, A, c, by omega, rfl, rfl, hb, hsz, Hr0.out, Ho.out⟩
      case round =>
        obtain ⟨k, A2, c2, hk, rfl, rfl, hb2, hsz2, hr2, ho2⟩ := hrel
        have Ho2 := Lib.hid ho2; clear ho2
        have Hr2 := Lib.hid hr2; clear hr2
        by_cases hkt : k < C
        · go_wp2_with fail
          have hh := Ht.out wr r k hlt hkt hb2
          refine hh.mono ?_; clear hh; rintro e w3 ⟨rfl, hb3⟩
          have hidx : r * C + k < K := by rw [HK.out]; exact idx_lt hlt hkt
          have hx := tabL_snoc R C f (r * C + k) (by rw [← HK.out]; exact hidx)
          rw [(idx_div (i := r) hkt).1, (idx_div (i := r) hkt).2] at hx
          have Hx := Lib.hid hx; clear hx
          have hbw0 : Below wr.heap.size wr (w3.alloc (.cells #[.int .u8 ((f r k).toNat : Int)] 5)) := hb3.alloc hb3.size _
          have hs3 := hb3.size
          obtain ⟨q, hq⟩ : ∃ q, q = r * C + k := ⟨_, rfl⟩
          rw [← hq] at hidx
          have Hidx := Lib.hid hidx
          go_wp2_with (at_builtin; refine wpList_append_bm (B := w.heap.size + 1) rfl (.tmp 22) (.tmp 27) rfl rfl (Ho2.out.below hbw0).own ?pa (some ⟨w3.heap.size, 0, none⟩) 1 1 [f r k] rfl (Sl.one _ _ _ _ rfl) ?pb ?pc)
          case pa => simp; omega
          case pb => rw [← hq]; omega
          intro A3 c3 w4 ho4 hb4 hrow4
          have hbw : Below (w.heap.size + 1) wr w4 := (hbw0.mono hsz2).trans hb4
          have hr4 := (hbw.block w.heap.size (by omega)).trans Hr2.out
          have G4 : Grow w4 (w.heap.size + 1) A3 (r * C + (k + 1)) c3 ((tabL R C f).take (r * C + (k + 1))) := by
            rw [← Nat.add_assoc, ← Hx.out]
            exact ⟨by rw [cells_append]; exact ho4, fun _ => by rw [cells_append]; exact hrow4⟩
          have HG := Lib.hid G4; clear G4 ho4 hrow4 
          have H4 := Lib.hid hr4; clear hr4
          go_wp2_with fail
          go_roundw
          case rel => exact ⟨k + 1, A3, c3, by omega, by go_num, rfl, hb2.trans (hbw.mono (by omega)), by have := hbw.size; omega, H4.out, HG.out⟩
          case measure => simp [intOf]; omega
        · obtain rfl : k = C := by omega
          go_wp2_with fail
          go_roundw
          case rel => exact ⟨r + 1, A2, c2, by omega, by go_num, by rw [Nat.add_mul, Nat.one_mul], hb2, hsz2, Hr2.out, by rw [Nat.add_mul, Nat.one_mul]; exact Ho2.out⟩
          case measure => simp [intOf]; omega
    · obtain rfl : r = R := by omega
      have r0 : wr.cell? ⟨w.heap.size, 0, none⟩ = some (.int .i64 0) := by rw [cell_of_row _ _ _ _ _ _ Hr0.out]; rfl
      have r1 : wr.cell? ⟨w.heap.size, 1, none⟩ = some (.int .i64 0) := by rw [cell_of_row _ _ _ _ _ _ Hr0.out]; rfl
      have r2 : wr.cell? ⟨w.heap.size, 2, none⟩ = some (.slice none 0 0) := by rw [cell_of_row _ _ _ _ _ _ Hr0.out]; rfl
      have y0 : wr.frozen? ⟨w.heap.size, 0, none⟩ = false := frozen_of_row _ _ _ _ _ Hr0.out
      have y1 : wr.frozen? ⟨w.heap.size, 1, none⟩ = false := frozen_of_row _ _ _ _ _ Hr0.out
      have y2 : wr.frozen? ⟨w.heap.size, 2, none⟩ = false := frozen_of_row _ _ _ _ _ Hr0.out
      go_wp2_with fail
      have e0 := heap_setCell_same wr w.heap.size 0 _ _ (.int .i64 (r : Int)) Hr0.out
      have e1 := heap_setCell_same _ w.heap.size 1 _ _ (.int .i64 (C : Int)) e0
      have e2 := heap_setCell_same _ w.heap.size 2 _ _ (.slice A (r * C) c) e1
      refine bodyPost_ret (results_cell_row Try.results33 _ _ w.heap.size 24 _ (0, 0) _ rfl e2 Try.underlying24 rfl size_matrix) rfl ?_
      have hs := ((Ho.out.set (p := ⟨w.heap.size, 0, none⟩) (by simp) (.int .i64 (r : Int))).set (p := ⟨w.heap.size, 1, none⟩) (by simp) (.int .i64 (C : Int))).set (p := ⟨w.heap.size, 2, none⟩) (by simp) (.slice A (r * C) c)
      rw [List.take_of_length_le (by rw [tabL_length]; exact Nat.le_refl _)] at hs
      exact ⟨_, rfl, ⟨A, c, rfl, hs.lower (by omega)⟩, ((hb.setCell (Nat.le_refl _) _).setCell (Nat.le_refl _) _).setCell (Nat.le_refl _) _⟩
end Go.Proofs.Ytccnoflgbopjlaa
