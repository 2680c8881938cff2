/-
  Rows of a matrix as slices in memory: n slices at one block, each of which reads as a row. No condition.
-/
import Derived.Test.YtccnoflgbopjlaaMdc
import Derived.Test.YtccnoflgbopjlaaMdb
import Derived.Test.YtccnoflgbopjlaaRed
namespace Go.Proofs.Ytccnoflgbopjlaa
open Go.RowKit
set_option linter.unusedVariables false

/-- The row of the first W numbers. -/
def rowL (W : Nat) (f : Nat → UInt8) : List UInt8 := (List.range W).map f
theorem rowL_length (W : Nat) (f : Nat → UInt8) : (rowL W f).length = W := by simp [rowL]
theorem rowL_get (W : Nat) (f : Nat → UInt8) (k : Nat) (h : k < W) : (rowL W f)[k]? = some (f k) := by simp [rowL, h]
theorem rowL_getD (W : Nat) (f : Nat → UInt8) (k : Nat) (h : k < W) : (rowL W f).getD k 0 = f k := by rw [List.getD_eq_getElem?_getD, rowL_get W f k h, Option.getD_some]
theorem rowL_congr {W : Nat} {f g : Nat → UInt8} (h : ∀ k, k < W → f k = g k) : rowL W f = rowL W g := List.map_congr_left fun k hk => h k (by simpa using hk)
theorem rowL_of {W : Nat} {l : List UInt8} (h : l.length = W) : rowL W (fun k => l.getD k 0) = l := by
  apply List.ext_getElem
  · rw [rowL_length, h]
  · intro k h1 h2
    simp [rowL, h2]
theorem rowL_map (W : Nat) (c : UInt8) (f : Nat → UInt8) : (rowL W f).map (gm c) = rowL W (fun k => gm c (f k)) := by simp [rowL]
theorem rowL_fld (W : Nat) (c : UInt8) (r l : Nat → UInt8) : fld c (rowL W r) (rowL W l) = rowL W (fun k => l k ^^^ gm c (r k)) := by
  apply List.ext_getElem
  · simp [rowL, fld]
  · intro k h1 h2
    have h3 : k < W := by rw [rowL_length] at h2; exact h2
    simp [rowL, fld, h3]
theorem rowL_append (V W : Nat) (f g : Nat → UInt8) : rowL V f ++ rowL W g = rowL (V + W) (fun k => if k < V then f k else g (k - V)) := by
  apply List.ext_getElem
  · simp [rowL]
  · intro k h1 h2
    rw [List.getElem_append]
    by_cases h3 : k < V
    · simp [rowL, h3]
    · simp [rowL, h3]
theorem rowL_mx {R C : Nat} {l : List UInt8} (h : l.length = R * C) {i : Nat} (hi : i < R) : (l.drop (i * C)).take C = rowL C (mx C l i) := by
  apply List.ext_getElem
  · rw [rowL_length, List.length_take, List.length_drop, h]
    have := Nat.mul_le_mul_right C hi
    rw [Nat.succ_mul] at this
    omega
  · intro k h1 h2
    rw [rowL_length] at h2
    have := idx_lt hi h2
    simp [rowL, mx, h, this]


/-- At block g lie n slices, each of which reads as a row of M, W wide; its cells lie in no block of S. -/
structure RowsAt (w : World) (g n W : Nat) (S : Nat → Prop) (M : Mx) : Prop where
  row : ∃ cur, w.heap[g]? = some (.cells cur 22 (0, 0)) ∧ cur.size = n ∧ ∀ i, i < n → ∃ A c, cur[i]? = some (.slice A W c) ∧ Sl w 1 A W c (cells (rowL W (M i))) ∧ ∀ b o, 0 < W → A = some ⟨b, o, none⟩ → ¬ S b
section
variable {w w' : World} {g n W : Nat} {S S' : Nat → Prop} {M M' : Mx}
theorem RowsAt.lt (h : RowsAt w g n W S M) : g < w.heap.size := by
  obtain ⟨cur, hg, _⟩ := h.row
  exact block_lt hg
theorem RowsAt.free (h : RowsAt w g n W S M) (i : Nat) : w.frozen? ⟨g, i, none⟩ = false := by
  obtain ⟨cur, hg, _⟩ := h.row
  exact frozen_of_row _ _ _ _ _ hg
theorem RowsAt.cell (h : RowsAt w g n W S M) {i : Nat} (hi : i < n) : ∃ A c, w.cell? ⟨g, i, none⟩ = some (.slice A W c) ∧ Sl w 1 A W c (cells (rowL W (M i))) ∧ ∀ b o, 0 < W → A = some ⟨b, o, none⟩ → ¬ S b := by
  obtain ⟨cur, hg, hn, hr⟩ := h.row
  obtain ⟨A, c, h1, h2, h3⟩ := hr i hi
  exact ⟨A, c, by rw [cell_of_row _ _ _ _ _ _ hg]; exact h1, h2, h3⟩
theorem RowsAt.fr (h : RowsAt w g n W S M) (hf : Fr S' w w') (hg' : ¬ S' g) (hs : ∀ b, S' b → S b) : RowsAt w' g n W S M := by
  obtain ⟨cur, hg, hn, hr⟩ := h.row
  refine ⟨cur, hf.row_some hg hg', hn, fun i hi => ?_⟩
  obtain ⟨A, c, h1, h2, h3⟩ := hr i hi
  exact ⟨A, c, h1, h2.fr hf fun b o hW hA hb => h3 b o hW hA (hs b hb), h3⟩
theorem RowsAt.later (h : RowsAt w g n W S M) (hb : Below w.heap.size w w') : RowsAt w' g n W S M := h.fr (S' := fun _ => False) (Fr.of_below hb) id (fun _ h => h.elim)
theorem RowsAt.drewN (h : RowsAt w g n W S M) (k : Nat) : RowsAt (w.drewN k) g n W S M := h.later (below_drewN (Below.refl _ _) k)
theorem RowsAt.congr (h : RowsAt w g n W S M) (e : ∀ i, i < n → ∀ k, k < W → M i k = M' i k) : RowsAt w g n W S M' := by
  obtain ⟨cur, hg, hn, hr⟩ := h.row
  refine ⟨cur, hg, hn, fun i hi => ?_⟩
  obtain ⟨A, c, h1, h2, h3⟩ := hr i hi
  exact ⟨A, c, h1, by rw [← rowL_congr (e i hi)]; exact h2, h3⟩
theorem RowsAt.set (h : RowsAt w g n W S M) (hS : S g) {i : Nat} (hi : i < n) {A : Option Addr} {c : Nat} {f : Nat → UInt8} (hs : Sl w 1 A W c (cells (rowL W f))) (hA : ∀ b o, 0 < W → A = some ⟨b, o, none⟩ → ¬ S b) :
    RowsAt (w.setCell ⟨g, i, none⟩ (.slice A W c)) g n W S (upd M i f) := by
  obtain ⟨cur, hg, hn, hr⟩ := h.row
  have hf : Fr (fun k => k = g) w (w.setCell ⟨g, i, none⟩ (.slice A W c)) := Fr.setCell (S := fun k => k = g) (Fr.refl _ _) (.inr rfl) _
  refine ⟨_, heap_setCell_same w g i cur _ _ hg, by rw [Array.size_setIfInBounds]; exact hn, fun k hk => ?_⟩
  by_cases he : k = i
  · subst he
    refine ⟨A, c, by rw [Array.getElem?_setIfInBounds]; simp [hn, hk], ?_, hA⟩
    rw [upd, if_pos rfl]
    exact hs.fr hf fun b o hW hb hk => hA b o hW hb (hk ▸ hS)
  · obtain ⟨A', c', h1, h2, h3⟩ := hr k hk
    refine ⟨A', c', by rw [Array.getElem?_setIfInBounds, if_neg (fun e => he e.symm)]; exact h1, ?_, h3⟩
    rw [upd, if_neg he]
    exact h2.fr hf fun b o hW hb hk => h3 b o hW hb (hk ▸ hS)
end

/-- The same of slices that are full. -/
structure RowsF (w : World) (g n W : Nat) (S : Nat → Prop) (M : Mx) : Prop where
  row : ∃ cur, w.heap[g]? = some (.cells cur 22 (0, 0)) ∧ cur.size = n ∧ ∀ i, i < n → ∃ A, cur[i]? = some (.slice A W W) ∧ Sl w 1 A W W (cells (rowL W (M i))) ∧ ∀ b o, 0 < W → A = some ⟨b, o, none⟩ → ¬ S b
theorem RowsF.at_ {w : World} {g n W : Nat} {S : Nat → Prop} {M : Mx} (h : RowsF w g n W S M) : RowsAt w g n W S M := by
  obtain ⟨cur, hg, hn, hr⟩ := h.row
  refine ⟨cur, hg, hn, fun i hi => ?_⟩
  obtain ⟨A, h1, h2, h3⟩ := hr i hi
  exact ⟨A, W, h1, h2, h3⟩
theorem RowsF.fr {w w' : World} {g n W : Nat} {S S' : Nat → Prop} {M : Mx} (h : RowsF w g n W S M) (hf : Fr S' w w') (hg' : ¬ S' g) (hs : ∀ b, S' b → S b) : RowsF w' g n W S M := by
  obtain ⟨cur, hg, hn, hr⟩ := h.row
  refine ⟨cur, hf.row_some hg hg', hn, fun i hi => ?_⟩
  obtain ⟨A, h1, h2, h3⟩ := hr i hi
  exact ⟨A, h1, h2.fr hf fun b o hW hA hb => h3 b o hW hA (hs b hb), h3⟩
theorem RowsF.later {w w' : World} {g n W : Nat} {S : Nat → Prop} {M : Mx} (h : RowsF w g n W S M) (hb : Below w.heap.size w w') : RowsF w' g n W S M := h.fr (S' := fun _ => False) (Fr.of_below hb) id (fun _ h => h.elim)

/-- A box of a matrix. -/
def boxM (r c : Int) (A : Option Addr) (n cp : Nat) : Obj := .cells #[.int .i64 r, .int .i64 c, .slice A n cp] 24
theorem boxM_0 {w : World} {g : Nat} {r c : Int} {A : Option Addr} {n cp : Nat} (h : w.heap[g]? = some (boxM r c A n cp)) : w.cell? ⟨g, 0, none⟩ = some (.int .i64 r) := by rw [cell_of_row _ _ _ _ _ _ h]; rfl
theorem boxM_1 {w : World} {g : Nat} {r c : Int} {A : Option Addr} {n cp : Nat} (h : w.heap[g]? = some (boxM r c A n cp)) : w.cell? ⟨g, 1, none⟩ = some (.int .i64 c) := by rw [cell_of_row _ _ _ _ _ _ h]; rfl
theorem boxM_2 {w : World} {g : Nat} {r c : Int} {A : Option Addr} {n cp : Nat} (h : w.heap[g]? = some (boxM r c A n cp)) : w.cell? ⟨g, 2, none⟩ = some (.slice A n cp) := by rw [cell_of_row _ _ _ _ _ _ h]; rfl
theorem boxM_free {w : World} {g : Nat} {r c : Int} {A : Option Addr} {n cp : Nat} (h : w.heap[g]? = some (boxM r c A n cp)) (i : Nat) : w.frozen? ⟨g, i, none⟩ = false := frozen_of_row _ _ _ _ _ h

theorem info_bs : (Try.prog.info? 22).map (fun i => (i.zero, i.size, i.bytes)) = some (some (.slice none 0 0), 1, 24) := by kernel_rfl
/-- make([][]byte, z) for a number that is no greater than 2 to the 20. -/
theorem makes_eq (z : Int) (k : Nat) (hz : z = (k : Int)) (hk : k ≤ 1048576) (w : World) :
    (Instr.makeSlice 57 (.int .i64 z) (.int .i64 z)).run Try.prog w = .ok (.slice (some ⟨w.heap.size, 0, none⟩) k k) (w.alloc (.cells (madeCells #[.slice none 0 0] k) 22)) := by
  obtain ⟨i0, hi, hz0, hz1, hz2⟩ := info_parts info_bs
  subst hz
  have h := run_make (P := Try.prog) w 57 22 i0 (.slice none 0 0) Try.underlying57 hi hz0 .i64 .i64 (k : Int) (k : Int) (by omega) (by omega) (by rw [hz2]; omega) (by omega)
  rw [hz1, Nat.mul_one, Int.toNat_natCast] at h
  exact h

set_option maxRecDepth 20000 in
theorem rowsOf1_any (v : Value) (w : World) : Calls Try.prog 54 #[v] w fun e w' => e = .returned v ∧ w' = w := by
  go_enter Try.func54, Try.ntmps54
  go_wp2_with fail
  go_ret
  exact ⟨rfl, rfl⟩

set_option maxRecDepth 20000 in
set_option maxHeartbeats 1600000 in
theorem eachRow_any (R C : Nat) (A : Option Addr) (N cp : Nat) (l : List UInt8) (h1 : 1 ≤ R) (h2 : R ≤ 255) (h3 : 1 ≤ C) (h4 : C ≤ 255) (hN : N = R * C) (w : World) (h : Sl w 1 A N cp (cells l)) :
    Calls Try.prog 53 #[.agg #[.int .i64 (R : Int), .int .i64 (C : Int), .slice A N cp], .func (.func 54) #[] #[]] w
      fun e w' => e = .returned (.slice (some ⟨w.heap.size + 1, 0, none⟩) R R) ∧ Below w.heap.size w w' ∧ ∀ S, (∀ b o, 0 < N → A = some ⟨b, o, none⟩ → ¬ S b) → RowsF w' (w.heap.size + 1) R C S (mx C l) := by
  have hn := h.lim
  have hcp := h.cap
  have htp := h.top
  unfold maxLen at hn htp
  have hl := h.len
  rw [cells_length, Nat.mul_one] at hl
  have hRC : R * C ≤ 255 * 255 := Nat.mul_le_mul h2 h4
  have hmk := makes_eq (R : Int) R rfl (by omega)
  have Hs := Lib.hid h; clear h
  have Hl := Lib.hid (hl.trans hN); clear hl
  have HN := Lib.hid hN
  rw [← hN] at hRC
  clear hN
  go_enter Try.func53, Try.ntmps53
  go_wp2_with fail
  go_loopw [14] (fun i wr => ∃ (k : Nat) (cur : Array Value), k ≤ R ∧ i = .int .i64 (k : Int) ∧ Below w.heap.size w wr ∧ w.heap.size + 2 ≤ wr.heap.size ∧
      wr.heap[w.heap.size]? = some (boxM (R : Int) (C : Int) A N cp) ∧ wr.heap[w.heap.size + 1]? = some (.cells cur 22 (0, 0)) ∧ cur.size = R ∧
      ∀ j, j < k → cur[j]? = some (.slice (A.map (·.add (j * C))) C C)) (fun i _ => R - (intOf i).toNat)
  case atStart => exact ⟨0, _, by omega, rfl, ((Below.refl _ _).alloc (Nat.le_refl _) _).alloc (by simp) _, by simp, (Below.heap_alloc _ _ _ (by simp)).trans (heap_alloc_new w _), (by have := heap_alloc_new (w.alloc (.cells #[.int .i64 (R : Int), .int .i64 (C : Int), .slice A N cp] 24)) (.cells (madeCells #[.slice none 0 0] R) 22); simpa using this), by rw [size_madeCells], fun j hj => absurd hj (by omega)⟩
  case round =>
    obtain ⟨k, cur, hk, rfl, hb, hsz, hr0, hr1, hcs, hcur⟩ := hrel
    have c1 := boxM_1 hr0
    have c2 := boxM_2 hr0
    have Hr0 := Lib.hid hr0; clear hr0
    have Hcur := Lib.hid hcur; clear hcur
    have Hcs := Lib.hid hcs; clear hcs
    by_cases hlt : k < R
    · have f1 : wr.frozen? ⟨w.heap.size + 1, k, none⟩ = false := frozen_of_row _ _ _ _ _ hr1
      have e1 : ∃ v, wr.cell? ⟨w.heap.size + 1, k, none⟩ = some v := by
        rw [cell_of_row _ _ _ _ _ _ hr1]
        exact ⟨_, Array.getElem?_eq_getElem (by rw [Hcs.out]; exact hlt)⟩
      obtain ⟨v0, e1⟩ := e1
      have Hr1 := Lib.hid hr1; clear hr1
      obtain ⟨q, hq⟩ : ∃ q, q = k * C := ⟨_, rfl⟩
      have hq2 : q + C ≤ N := by
        have : (k + 1) * C ≤ R * C := Nat.mul_le_mul_right C hlt
        rw [Nat.add_mul, Nat.one_mul] at this
        have := HN.out
        omega
      have hqi : (k : Int) * (C : Int) = (q : Int) := by rw [hq]; simp
      have hqj : ((k : Int) + 1) * (C : Int) = ((q + C : Nat) : Int) := by rw [Int.add_mul, hqi]; simp
      have hqC : q + C - q = C := by omega
      have Hq := Lib.hid hq; clear hq
      go_wp2_with fail
      go_quiet (fail)
      go_wp2_with fail
      refine (rowsOf1_any _ _).mono ?_; rintro e w2 ⟨rfl, rfl⟩
      go_wp2_with fail
      go_roundw
      case rel =>
        refine ⟨k + 1, cur.setIfInBounds k (.slice (A.map (·.add (k * C))) C C), by omega, by go_num, (below_drewN hb nq).setCell (by simp) _, by simp; omega, (Below.heap_setCell _ _ _ _ (by simp)).trans Hr0.out, ?_, by rw [Array.size_setIfInBounds]; exact Hcs.out, fun j hj => ?_⟩
        · have := heap_setCell_same (wr.drewN nq) (w.heap.size + 1) k cur _ (.slice (A.map (·.add q)) (q + C - q) (q + C - q)) Hr1.out
          rw [hqC, Hq.out] at this
          rw [Hq.out]
          exact this
        · rw [Array.getElem?_setIfInBounds]
          by_cases he : k = j
          · subst he
            simp [Hcs.out, hlt]
          · rw [if_neg he]
            exact Hcur.out j (by omega)
      case measure => simp [intOf]; omega
    · obtain rfl : k = R := by omega
      go_wp2_with fail
      go_ret
      refine ⟨rfl, hb, fun S hS => ⟨cur, hr1, Hcs.out, fun i hi => ⟨_, Hcur.out i hi, ?_, fun b o _ hA hb => ?_⟩⟩⟩
      · have hi2 := Nat.mul_le_mul_right C hi
        rw [Nat.succ_mul] at hi2
        have hs := (Hs.out.below hb (Nat.le_refl _)).sub1 (i * C) (i * C + C) C (by omega) (by rw [HN.out]; exact hi2) (by omega) (by unfold maxLen; omega)
        rw [show i * C + C - i * C = C from by omega, rowL_mx Hl.out hi] at hs
        exact hs
      · rcases A with _ | ⟨b', o', s'⟩
        · cases hA
        · rw [Option.map_some] at hA
          have hN0 : 0 < N := by rw [HN.out]; exact Nat.mul_pos h1 h3
          obtain ⟨b2, o2, e2, _⟩ := Hs.out.at_ hN0
          injection e2 with e2
          injection e2 with e2 e3 e4
          subst e2; subst e3; subst e4
          rw [Addr.add_lit] at hA
          injection hA with hA
          injection hA with hA _
          exact hS b' o' hN0 rfl (hA ▸ hb)

end Go.Proofs.Ytccnoflgbopjlaa
