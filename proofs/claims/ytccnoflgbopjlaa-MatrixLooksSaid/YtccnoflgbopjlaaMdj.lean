/-
  Contracts of package matrix's columnsOf. No condition.
-/
import Derived.Test.YtccnoflgbopjlaaMdf
namespace Go.Proofs.Ytccnoflgbopjlaa
open Go.RowKit Go.Proofs
set_option linter.unusedVariables false

set_option maxRecDepth 20000 in
theorem col1_any (A : Option Addr) (W cp : Nat) (f : Nat → UInt8) (b c : Nat) (hc : c < W) (w : World) (h : Sl w 1 A W cp (cells (rowL W f))) (hb : w.cell? ⟨b, 0, none⟩ = some (.int .i64 (c : Int))) :
    Calls Try.prog 56 #[.slice A W cp, .pointer (some ⟨b, 0, none⟩)] w fun e w' => e = .returned (.int .u8 ((f c).toNat : Int)) ∧ w' = w := by
  have hcp := h.lim
  unfold maxLen at hcp
  obtain ⟨b1, o1, rfl, hcell⟩ := h.at_ hc
  have hx := hcell c _ (by rw [cells_get _ c (by rw [rowL_length]; exact hc)])
  have hg : (rowL W f)[c]'(by rw [rowL_length]; exact hc) = f c := by simp [rowL]
  rw [hg, bv] at hx
  clear hcell h hg
  go_enter Try.func56, Try.ntmps56
  go_wp2_with fail
  go_ret
  exact ⟨rfl, rfl⟩

/-- The first k of a row stand, noughts behind. -/
def rowN (R k : Nat) (f : Nat → UInt8) : List UInt8 := rowL R fun i => if i < k then f i else 0
theorem rowN_zero (R : Nat) (f : Nat → UInt8) : rowN R 0 f = List.replicate R 0 := by
  apply List.ext_getElem
  · simp [rowN, rowL]
  · intro i h1 h2
    simp [rowN, rowL]
theorem rowN_next (R k : Nat) (f : Nat → UInt8) : (rowN R k f).set k (f k) = rowN R (k + 1) f := by
  apply List.ext_getElem
  · simp [rowN, rowL]
  · intro i h1 h2
    rw [List.getElem_set]
    by_cases he : k = i
    · subst he
      simp [rowN, rowL]
    · have : (i < k + 1) = (i < k) := by apply propext; omega
      simp [rowN, rowL, he, this]
theorem rowN_all (R : Nat) (f : Nat → UInt8) : rowN R R f = rowL R f := rowL_congr fun i hi => if_pos hi

set_option maxRecDepth 20000 in
set_option maxHeartbeats 1600000 in
theorem eachCol_any (R C : Nat) (A : Option Addr) (N cp : Nat) (l : List UInt8) (h1 : 1 ≤ R) (h2 : R ≤ 255) (h3 : 1 ≤ C) (h4 : C ≤ 255) (hN : N = R * C) (bc c : Nat) (hc : c < C) (w : World) (h : Sl w 1 A N cp (cells l)) (hbc : w.cell? ⟨bc, 0, none⟩ = some (.int .i64 (c : Int))) :
    Calls Try.prog 55 #[.agg #[.int .i64 (R : Int), .int .i64 (C : Int), .slice A N cp], .func (.func 56) #[] #[.pointer (some ⟨bc, 0, none⟩)]] w
      fun e w' => e = .returned (.slice (some ⟨w.heap.size + 1, 0, none⟩) R R) ∧ Below w.heap.size w w' ∧ Sl w' 1 (some ⟨w.heap.size + 1, 0, none⟩) R R (cells (rowL R fun i => mx C l i c)) := by
  have hn := h.lim
  have hcp := h.cap
  have htp := h.top
  unfold maxLen at hn htp
  have hl := h.len
  rw [cells_length, Nat.mul_one] at hl
  have hRC : R * C ≤ 255 * 255 := Nat.mul_le_mul h2 h4
  have hmk := make_eq (R : Int) R rfl (by omega)
  have Hs := Lib.hid h; clear h
  have Hl := Lib.hid (hl.trans hN); clear hl
  have HN := Lib.hid hN
  rw [← hN] at hRC
  clear hN
  go_enter Try.func55, Try.ntmps55
  go_wp2_with fail
  go_loopw [14] (fun i wr => ∃ (k : Nat), k ≤ R ∧ i = .int .i64 (k : Int) ∧ Below w.heap.size w wr ∧ w.heap.size + 2 ≤ wr.heap.size ∧
      wr.heap[w.heap.size]? = some (boxM (R : Int) (C : Int) A N cp) ∧ Mine wr (w.heap.size + 1) 5 (some ⟨w.heap.size + 1, 0, none⟩) R (cells (rowN R k fun i => mx C l i c))) (fun i _ => R - (intOf i).toNat)
  case atStart => exact ⟨0, by omega, rfl, ((Below.refl _ _).alloc (Nat.le_refl _) _).alloc (by simp) _, by simp, (Below.heap_alloc _ _ _ (by simp)).trans (heap_alloc_new w _), by
    have := Mine.noughts (w.alloc (.cells #[.int .i64 (R : Int), .int .i64 (C : Int), .slice A N cp] 24)) R
    rw [rowN_zero]
    simpa using this⟩
  case round =>
    obtain ⟨k, hk, rfl, hb, hsz, hr0, hm⟩ := hrel
    have c1 := boxM_1 hr0
    have c2 := boxM_2 hr0
    have Hr0 := Lib.hid hr0; clear hr0
    by_cases hlt : k < R
    · obtain ⟨g1, hg1, _, k1, f1⟩ := hm.at_ (u := 0) hlt (by rw [rowN, rowL_get _ _ _ hlt]; simp)
      injection hg1 with hg1
      injection hg1 with hg1 _
      subst hg1
      have Hm := Lib.hid hm; clear hm
      obtain ⟨q, hq⟩ : ∃ q, q = k * C := ⟨_, rfl⟩
      have hq2 : q + C ≤ N := by
        have : (k + 1) * C ≤ R * C := Nat.mul_le_mul_right C hlt
        rw [Nat.add_mul, Nat.one_mul] at this
        have := HN.out
        omega
      have hqi : (k : Int) * (C : Int) = (q : Int) := by rw [hq]; simp
      have hqj : ((k : Int) + 1) * (C : Int) = ((q + C : Nat) : Int) := by rw [Int.add_mul, hqi]; simp
      have hqC : q + C - q = C := by omega
      have hs := (Hs.out.below hb (Nat.le_refl _)).sub1 q (q + C) (q + C - q) (by omega) hq2 (by omega) (by unfold maxLen; omega)
      rw [hqC, hq, rowL_mx Hl.out hlt, ← hq] at hs
      have HS := Lib.hid hs; clear hs
      have hcb := (hb.cell (p := ⟨bc, 0, none⟩) (World.block_lt_of_cell? w _ hbc)).trans hbc
      have Hq := Lib.hid hq; clear hq
      go_wp2_with fail
      go_quiet (fail)
      go_wp2_with fail
      have hh := col1_any (A.map (·.add q)) C C (mx C l k) bc c hc (wr.drewN nq) (HS.out.drewN nq) hcb
      refine hh.mono ?_; clear hh; rintro e w2 ⟨rfl, rfl⟩
      go_wp2_with fail
      go_roundw
      case rel => exact ⟨k + 1, by omega, by go_num, (below_drewN hb nq).setCell (by simp) _, by simp; omega, (Below.heap_setCell _ _ _ _ (by simp)).trans Hr0.out, by rw [← rowN_next]; exact (Hm.out.later (below_drewN (Below.refl _ _) nq)).set hlt _⟩
      case measure => simp [intOf]; omega
    · obtain rfl : k = R := by omega
      have Hm := Lib.hid hm; clear hm
      go_wp2_with fail
      go_ret
      have := Hm.out.sl (c := k) (by rw [rowN_all, rowL_length]) (Nat.le_refl _) (by unfold maxLen; omega)
      rw [rowN_all] at this
      exact ⟨rfl, hb, this⟩

set_option maxRecDepth 20000 in
set_option maxHeartbeats 3200000 in
theorem columnsOf_any (R C : Nat) (A : Option Addr) (N cp : Nat) (l : List UInt8) (h1 : 1 ≤ R) (h2 : R ≤ 255) (h3 : 1 ≤ C) (h4 : C ≤ 255) (hN : N = R * C) (w : World) (h : Sl w 1 A N cp (cells l)) :
    Calls Try.prog 39 #[.agg #[.int .i64 (R : Int), .int .i64 (C : Int), .slice A N cp]] w
      fun e w' => ∃ g, e = .returned (.slice (some ⟨g, 0, none⟩) C C) ∧ w.heap.size ≤ g ∧ Below w.heap.size w w' ∧ ∀ S, (∀ b, w.heap.size ≤ b → b ≠ g → ¬ S b) → RowsAt w' g C R S (fun j i => mx C l i j) := by
  have hmk := makes_eq (C : Int) C rfl (by omega)
  have Hs := Lib.hid h; clear h
  have HN := Lib.hid hN; clear hN
  go_enter Try.func39, Try.ntmps39
  go_wp2_with fail
  go_loopw [10] (fun i wr => ∃ (k : Nat) (cur : Array Value), k ≤ C ∧ i = .int .i64 (k : Int) ∧ Below w.heap.size w wr ∧ w.heap.size + 2 ≤ wr.heap.size ∧
      wr.heap[w.heap.size]? = some (boxM (R : Int) (C : Int) A N cp) ∧ wr.heap[w.heap.size + 1]? = some (.cells cur 22 (0, 0)) ∧ cur.size = C ∧
      ∀ j, j < k → ∃ b, w.heap.size + 2 ≤ b ∧ cur[j]? = some (.slice (some ⟨b, 0, none⟩) R R) ∧ Sl wr 1 (some ⟨b, 0, none⟩) R R (cells (rowL R fun i => mx C l i j))) (fun i _ => C - (intOf i).toNat)
  case atStart => exact ⟨0, _, by omega, rfl, ((Below.refl _ _).alloc (Nat.le_refl _) _).alloc (by simp) _, by simp, (Below.heap_alloc _ _ _ (by simp)).trans (heap_alloc_new w _), (by have := heap_alloc_new (w.alloc (.cells #[.int .i64 (R : Int), .int .i64 (C : Int), .slice A N cp] 24)) (.cells (madeCells #[.slice none 0 0] C) 22); simpa using this), by rw [size_madeCells], fun j hj => absurd hj (by omega)⟩
  case round =>
    obtain ⟨k, cur, hk, rfl, hb, hsz, hr0, hr1, hcs, hcur⟩ := hrel
    have Hcur := Lib.hid hcur; clear hcur
    have Hcs := Lib.hid hcs; clear hcs
    by_cases hlt : k < C
    · -- the captured column in a block of its own
      have hb1 : Below wr.heap.size wr (wr.alloc (.cells #[.int .i64 (k : Int)] 3)) := (Below.refl _ _).alloc (Nat.le_refl _) _
      have hcol : (wr.alloc (.cells #[.int .i64 (k : Int)] 3)).cell? ⟨wr.heap.size, 0, none⟩ = some (.int .i64 (k : Int)) := by simp
      have hx0 := (hb1.block _ (block_lt hr0)).trans hr0
      have hx1 := (hb1.block _ (block_lt hr1)).trans hr1
      have hsl := (Hs.out.below hb (Nat.le_refl _)).below hb1 (Nat.le_refl _)
      obtain ⟨w1, hw1⟩ : ∃ w1, w1 = wr.alloc (.cells #[.int .i64 (k : Int)] 3) := ⟨_, rfl⟩
      have hs1 : w1.heap.size = wr.heap.size + 1 := by rw [hw1]; simp
      go_wp2_with fail
      rw [← hw1] at hb1 hcol hx0 hx1 hsl ⊢
      clear hw1 hr0 hr1
      have c0 := boxM_0 hx0
      have c1 := boxM_1 hx0
      have c2 := boxM_2 hx0
      have f1 : w1.frozen? ⟨w.heap.size + 1, k, none⟩ = false := frozen_of_row _ _ _ _ _ hx1
      have e1 : ∃ v, w1.cell? ⟨w.heap.size + 1, k, none⟩ = some v := by
        rw [cell_of_row _ _ _ _ _ _ hx1]
        exact ⟨_, Array.getElem?_eq_getElem (by rw [Hcs.out]; exact hlt)⟩
      obtain ⟨v0, e1⟩ := e1
      have Hx0 := Lib.hid hx0; clear hx0
      have Hx1 := Lib.hid hx1; clear hx1
      have Hsl := Lib.hid hsl.drew; clear hsl
      go_region_with (go_at_call 55; have hh := eachCol_any R C A N cp l h1 h2 h3 h4 HN.out wr.heap.size k hlt w1.drew Hsl.out hcol; refine hh.mono ?_; clear hh; rintro e w3 ⟨rfl, hb3, hs3⟩; have k3 := (hb3.cell (p := ⟨wr.heap.size, 0, none⟩) (by show wr.heap.size < w1.heap.size; omega)).trans hcol; have e3 := (hb3.cell (p := ⟨w.heap.size + 1, k, none⟩) (by show w.heap.size + 1 < w1.heap.size; omega)).trans e1; have f3 := (hb3.frozen (p := ⟨w.heap.size + 1, k, none⟩) (by show w.heap.size + 1 < w1.heap.size; omega)).trans f1)
      all_goals
        have hz : w1.drew.heap.size + 1 = wr.heap.size + 1 + 1 := by show w1.heap.size + 1 = _; omega
        have hbA : Below wr.heap.size wr w3 := (Below.drew hb1).trans (hb3.mono (by show wr.heap.size ≤ w1.heap.size; omega))
        have x0 : w3.heap[w.heap.size]? = some (boxM (R : Int) (C : Int) A N cp) := (hb3.block _ (by show w.heap.size < w1.heap.size; omega)).trans Hx0.out
        have x1 : w3.heap[w.heap.size + 1]? = some (.cells cur 22 (0, 0)) := (hb3.block _ (by show w.heap.size + 1 < w1.heap.size; omega)).trans Hx1.out
        rw [hz] at hs3
        have Hs3 := Lib.hid hs3; clear hs3
        have HbA := Lib.hid hbA; clear hbA hb3
        have hss := HbA.out.size
        have X0 := Lib.hid x0; clear x0
        have X1 := Lib.hid x1; clear x1
        clear k3 e3 f3 e1 f1 c0 c1 c2
        go_wp2_with fail
        go_roundw
        case rel =>
          have hfg : Fr (fun b => b = w.heap.size + 1) w3 (w3.setCell ⟨w.heap.size + 1, k, none⟩ (.slice (some ⟨wr.heap.size + 1 + 1, 0, none⟩) R R)) := Fr.setCell (S := fun b => b = w.heap.size + 1) (Fr.refl _ _) (.inr rfl) _
          refine ⟨k + 1, cur.setIfInBounds k (.slice (some ⟨wr.heap.size + 1 + 1, 0, none⟩) R R), by omega, by go_num, (hb.trans (HbA.out.mono (by omega))).setCell (by simp) _, by simp; omega, (Below.heap_setCell _ _ _ _ (by simp)).trans X0.out, heap_setCell_same _ _ _ _ _ _ X1.out, by rw [Array.size_setIfInBounds]; exact Hcs.out, fun j hj => ?_⟩
          by_cases he : j = k
          · subst he
            refine ⟨wr.heap.size + 1 + 1, by omega, by rw [Array.getElem?_setIfInBounds]; simp [Hcs.out, hlt], ?_⟩
            exact Hs3.out.fr hfg fun b o _ hA hb => by
              injection hA with hA
              injection hA with hA _
              omega
          · obtain ⟨b, hb2, hc2, hs2⟩ := Hcur.out j (by omega)
            refine ⟨b, hb2, by rw [Array.getElem?_setIfInBounds, if_neg (fun e => he e.symm)]; exact hc2, ?_⟩
            exact (hs2.below HbA.out (Nat.le_refl _)).fr hfg fun b' o _ hA hb => by
              injection hA with hA
              injection hA with hA _
              omega
        case measure => simp [intOf]; omega
    · obtain rfl : k = C := by omega
      have Hr1 := Lib.hid hr1; clear hr1
      go_wp2_with fail
      go_ret
      refine ⟨w.heap.size + 1, rfl, by omega, hb, fun S hS => ⟨cur, Hr1.out, Hcs.out, fun i hi => ?_⟩⟩
      obtain ⟨b, hb2, hc2, hs2⟩ := Hcur.out i hi
      refine ⟨_, _, hc2, hs2, fun b' o _ hA => ?_⟩
      injection hA with hA
      injection hA with hA _
      exact hS b' (by omega) (by omega)
end Go.Proofs.Ytccnoflgbopjlaa
