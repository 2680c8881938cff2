/-
  Matrices as lists of numbers; the contract of the document's Identity. No condition.
-/
import Derived.Test.YtccnoflgbopjlaaMab
import Derived.Deep.WholeRow
import Derived.Deep.QuietTactic
import Derived.BigQuiet
namespace Go.Proofs.Ytccnoflgbopjlaa
open Go.RowKit
set_option linter.unusedVariables false

/-- The numbers of a matrix of R rows and D columns, row by row. -/
def tabL (R D : Nat) (f : Nat → Nat → UInt8) : List UInt8 := (List.range (R * D)).map fun p => f (p / D) (p % D)
theorem tabL_length (R D : Nat) (f : Nat → Nat → UInt8) : (tabL R D f).length = R * D := by simp [tabL]
theorem tabL_get (R D : Nat) (f : Nat → Nat → UInt8) (p : Nat) (h : p < R * D) : (tabL R D f)[p]? = some (f (p / D) (p % D)) := by simp [tabL, h]
theorem idx_div {i k D : Nat} (hk : k < D) : (i * D + k) / D = i ∧ (i * D + k) % D = k := by
  have hD : 0 < D := by omega
  constructor
  · rw [Nat.mul_comm, Nat.mul_add_div hD, Nat.div_eq_of_lt hk, Nat.add_zero]
  · rw [Nat.mul_comm, Nat.mul_add_mod, Nat.mod_eq_of_lt hk]
theorem tabL_snoc (R D : Nat) (f : Nat → Nat → UInt8) (p : Nat) (h : p < R * D) : (tabL R D f).take p ++ [f (p / D) (p % D)] = (tabL R D f).take (p + 1) := by
  have h1 : p < (tabL R D f).length := by rw [tabL_length]; exact h
  rw [← List.take_append_getElem h1]
  congr 2
  simp [tabL]
theorem tabL_congr {R D : Nat} {f g : Nat → Nat → UInt8} (h : ∀ i, i < R → ∀ k, k < D → f i k = g i k) : tabL R D f = tabL R D g := by
  apply List.map_congr_left
  intro p hp
  have hp' : p < R * D := by simpa using hp
  have hD : 0 < D := by
    rcases Nat.eq_zero_or_pos D with h0 | h0
    · subst h0; omega
    · exact h0
  exact h _ (Nat.div_lt_of_lt_mul (by rw [Nat.mul_comm]; exact hp')) _ (Nat.mod_lt _ hD)
/-- A list read as a matrix of D columns. -/
def mx (D : Nat) (l : List UInt8) : Mx := fun i k => l.getD (i * D + k) 0
theorem mx_tabL {R D : Nat} (f : Nat → Nat → UInt8) {i k : Nat} (hi : i < R) (hk : k < D) : mx D (tabL R D f) i k = f i k := by
  have h := idx_lt hi hk
  have h2 := idx_div (i := i) hk
  rw [mx, List.getD_eq_getElem?_getD, tabL_get _ _ _ _ h, Option.getD_some, h2.1, h2.2]
theorem tabL_mx {R D : Nat} {l : List UInt8} (h : l.length = R * D) : tabL R D (mx D l) = l := by
  apply List.ext_getElem
  · rw [tabL_length, h]
  · intro p h1 h2
    rw [tabL_length] at h1
    simp only [tabL, List.getElem_map, List.getElem_range, mx]
    have : p / D * D + p % D = p := Nat.div_add_mod' p D
    rw [this]
    simp [h2]

/-- Bytes that grow by append, all in blocks from B on. -/
structure Grow (w : World) (B : Nat) (A : Option Addr) (k c : Nat) (l : List UInt8) : Prop where
  own : Own w B 5 1 A k c (cells l)
  row : 0 < k → w.ownsRow B 5 1 (.slice A k c) k (cells l)
theorem Grow.nil (w : World) (B : Nat) : Grow w B none 0 0 [] := ⟨Own.full (Sl.nil _ 1 0 (by decide)), fun h => absurd h (by omega)⟩
theorem Grow.below {w w' : World} {B k c : Nat} {A : Option Addr} {l : List UInt8} (h : Grow w B A k c l) (hb : Below w.heap.size w w') : Grow w' B A k c l := ⟨h.own.below hb, fun h0 => ownsRow_below (h.row h0) hb⟩
theorem Grow.set {w : World} {B k c : Nat} {A : Option Addr} {l : List UInt8} (h : Grow w B A k c l) {p : Addr} (hp : p.block < B) (v : Value) : Grow (w.setCell p v) B A k c l := by
  have hrow : 0 < k → (w.setCell p v).ownsRow B 5 1 (.slice A k c) k (cells l) := fun h0 => by
    obtain ⟨hl, hv⟩ := h.row h0
    refine ⟨hl, ?_⟩
    rcases hv with hv | ⟨g, cap, cur, hv, hg, hh, r⟩
    · exact .inl hv
    · exact .inr ⟨g, cap, cur, hv, hg, by rw [Below.heap_setCell _ _ _ _ (by omega)]; exact hh, r⟩
  refine ⟨⟨⟨h.own.sl.len, h.own.sl.cap, h.own.sl.top, fun j u hu => ?_⟩, ?_⟩, hrow⟩
  · have h0 : 0 < k := by
      rcases Nat.eq_zero_or_pos k with h0 | h0
      · have := h.own.sl.len
        rw [h0, Nat.zero_mul] at this
        rw [List.eq_nil_of_length_eq_zero this] at hu
        cases hu
      · exact h0
    obtain ⟨b, o, e, hc⟩ := h.own.sl.cell j u hu
    refine ⟨b, o, e, ?_⟩
    obtain ⟨_, hv⟩ := h.row h0
    rcases hv with ⟨_, hv0⟩ | ⟨g, cap, cur, hv, hg, _⟩
    · omega
    · injection hv with hA
      rw [e] at hA
      injection hA with hA
      injection hA with hA _
      rw [World.cell?_setCell_other _ _ _ _ (by rintro rfl; simp at hp; omega)]
      exact hc
  · rcases Nat.eq_zero_or_pos k with h0 | h0
    · rcases h.own.own with h1 | h1
      · exact .inl h1
      · obtain ⟨hl, hv⟩ := h1
        rcases hv with hv | ⟨g, cap, cur, hv, hg, hh, r⟩
        · exact .inr ⟨hl, .inl hv⟩
        · exact .inr ⟨hl, .inr ⟨g, cap, cur, hv, hg, by rw [Below.heap_setCell _ _ _ _ (by omega)]; exact hh, r⟩⟩
    · exact .inr (hrow h0)

theorem results_cell_pair {P : Program} {fn : Func} {p u : Tmp} {ty : TypeId} (h : fn.results = #[.cell p ty, .tmp u]) (tmps : Array Value) (w : World) (g : Nat) (t : TypeId) (cs : Array Value) (fr : Nat × Nat) (d : TypeDesc)
    (hp : tmps.getD p undef = .pointer (some ⟨g, 0, none⟩)) (hg : w.heap[g]? = some (.cells cs t fr))
    (hu : P.underlying ty = some d) (hd : (match d with | .struct _ | .array _ _ => true | _ => false) = true) (hi : (P.info? ty).map (·.size) = some cs.size) :
    (results fn tmps).run P w = .ok (.tuple #[.agg cs, tmps.getD u undef]) w := by
  have hp' : tmps[p]?.getD undef = .pointer (some ⟨g, 0, none⟩) := by simpa using hp
  simp [results, h, hp', asAddr, run_loadVar_row w g t ty cs fr d hg hu hd hi]
theorem size_matrix : (Try.prog.info? 24).map (·.size) = some 3 := by kernel_rfl

set_option maxRecDepth 20000 in
set_option maxHeartbeats 800000 in
theorem ridentity_no (n : Int) (h : n < 1 ∨ 255 < n) (w : World) :
    Calls Try.prog 19 #[.int .i64 n] w fun e w' => e = .returned (.tuple #[.agg #[.int .i64 0, .int .i64 0, .slice none 0 0], .int .i64 2]) ∧ Below w.heap.size w w' := by
  go_enter Try.func19, Try.ntmps19
  go_wp2_with fail
  all_goals
    refine bodyPost_ret (results_cell_pair Try.results19 _ _ w.heap.size 24 _ (0, 0) _ rfl (heap_alloc_new w _) Try.underlying24 rfl size_matrix) rfl ?_
    exact ⟨rfl, (Below.refl _ _).alloc (Nat.le_refl _) _⟩

set_option maxRecDepth 20000 in
set_option maxHeartbeats 800000 in
theorem ridentity_yes (N : Nat) (h1 : 1 ≤ N) (h2 : N ≤ 255) (w : World) :
    Calls Try.prog 19 #[.int .i64 (N : Int)] w fun e w' => ∃ A c, e = .returned (.tuple #[.agg #[.int .i64 (N : Int), .int .i64 (N : Int), .slice A (N * N) c], .int .i64 0]) ∧ Sl w' 1 A (N * N) c (cells (tabL N N one)) ∧ Below w.heap.size w w' := by
  have hNN : N * N ≤ 255 * 255 := Nat.mul_le_mul h2 h2
  obtain ⟨K, hK⟩ : ∃ K, K = N * N := ⟨_, rfl⟩
  have hKi : (N : Int) * (N : Int) = (K : Int) := by rw [hK]; simp
  have hlt : ¬ (N : Int) < 1 := by omega
  have hgt : ¬ (255 : Int) < (N : Int) := by omega
  rw [← hK] at hNN ⊢
  have HK := Lib.hid hK; clear hK
  go_enter Try.func19, Try.ntmps19
  go_wp2_with fail
  go_loopw [5] (fun i wr => ∃ (k : Nat) (A' : Option Addr) (c' : Nat), k ≤ K ∧ i = .int .i64 (k : Int) ∧ Below w.heap.size w wr ∧ w.heap.size + 2 ≤ wr.heap.size ∧
      wr.heap[w.heap.size]? = some (.cells #[.int .i64 0, .int .i64 0, .slice none 0 0] 24 (0, 0)) ∧
      wr.heap[w.heap.size + 1]? = some (.cells #[.int .i64 (N : Int), .int .i64 (N : Int), .slice A' k c'] 24 (0, 0)) ∧
      Grow wr (w.heap.size + 2) A' k c' ((tabL N N one).take k)) (fun i _ => K - (intOf i).toNat)
  case atStart => exact ⟨0, none, 0, by omega, rfl, ((Below.refl _ _).alloc (Nat.le_refl _) _).alloc (by simp) _, by simp, (Below.heap_alloc _ _ _ (by simp)).trans (heap_alloc_new w _), by have := heap_alloc_new (w.alloc (.cells #[.int .i64 0, .int .i64 0, .slice none 0 0] 24)) (.cells #[.int .i64 (N : Int), .int .i64 (N : Int), .slice none 0 0] 24); simpa using this, Grow.nil _ _⟩
  case round =>
    obtain ⟨k, A', c', hk, rfl, hb, hsz, hr0, hr1, ho⟩ := hrel
    have Ho := Lib.hid ho; clear ho
    have m0 : wr.cell? ⟨w.heap.size + 1, 0, none⟩ = some (.int .i64 (N : Int)) := by rw [cell_of_row _ _ _ _ _ _ hr1]; rfl
    have m1 : wr.cell? ⟨w.heap.size + 1, 1, none⟩ = some (.int .i64 (N : Int)) := by rw [cell_of_row _ _ _ _ _ _ hr1]; rfl
    have m2 : wr.cell? ⟨w.heap.size + 1, 2, none⟩ = some (.slice A' k c') := by rw [cell_of_row _ _ _ _ _ _ hr1]; rfl
    have z2 : wr.frozen? ⟨w.heap.size + 1, 2, none⟩ = false := frozen_of_row _ _ _ _ _ hr1
    have Hr0 := Lib.hid hr0; clear hr0
    have Hr1 := Lib.hid hr1; clear hr1
    by_cases hlt : k < K
    · have hx := tabL_snoc N N one k (by rw [← HK.out]; exact hlt)
      have Hx := Lib.hid hx; clear hx
      have hkN : k / N ≤ k := Nat.div_le_self _ _
      have hdv : wrap64 ((k : Int) / (N : Int)) = ((k / N : Nat) : Int) := by
        rw [show (k : Int) / (N : Int) = ((k / N : Nat) : Int) from by simp]
        generalize k / N = y at hkN
        unfold wrap64
        omega
      have hmd : (k : Int) % (N : Int) = ((k % N : Nat) : Int) := by simp
      obtain ⟨d, hd⟩ : ∃ d, d = k / N := ⟨_, rfl⟩
      obtain ⟨m, hm⟩ : ∃ m, m = k % N := ⟨_, rfl⟩
      rw [← hd] at hdv
      rw [← hm] at hmd
      rw [← hd, ← hm] at Hx
      clear hd hm hkN
      by_cases he : d = m
      · have hq : (((d : Nat) : Int) == (m : Int)) = true := by simp [he]
        have Hone := Lib.hid (show one d m = 1 from if_pos he); clear he
        go_wp2_with fail
        go_quiet (fail)
        have hbw0 : Below wr.heap.size wr ((wr.drewN nq).alloc (.cells #[.int .u8 1] 5)) := (below_drewN (Below.refl _ _) nq).alloc (Nat.le_refl _) _
        go_wp2_with (at_builtin; refine wpList_append_bm (B := w.heap.size + 2) rfl (.tmp 32) (.tmp 34) rfl rfl (Ho.out.below hbw0).own ?pa (some ⟨wr.heap.size, 0, none⟩) 1 1 [1] rfl (Sl.one _ _ _ _ rfl) ?pb ?pc)
        case pa => simp; omega
        case pb => omega
        intro A2 c2 w2 ho2 hb2 hrow2
        have hbw : Below (w.heap.size + 2) wr w2 := (hbw0.mono hsz).trans hb2
        have m2' := (hbw.cell (p := ⟨w.heap.size + 1, 2, none⟩) (by simp)).trans m2
        have z2' := (hbw.frozen (p := ⟨w.heap.size + 1, 2, none⟩) (by simp)).trans z2
        have hr1' := (hbw.block (w.heap.size + 1) (by omega)).trans Hr1.out
        have hr0' := (hbw.block w.heap.size (by omega)).trans Hr0.out
        have hx2 := Hx.out
        rw [Hone.out] at hx2
        have G2 : Grow w2 (w.heap.size + 2) A2 (k + 1) c2 ((tabL N N one).take (k + 1)) := by
          rw [← hx2]
          exact ⟨by rw [cells_append]; exact ho2, fun _ => by rw [cells_append]; exact hrow2⟩
        have HG := Lib.hid G2; clear G2 ho2 hrow2 hx2
        have H0 := Lib.hid hr0'; clear hr0'
        have H1 := Lib.hid hr1'; clear hr1'
        go_wp2_with fail
        go_roundw
        case rel =>
          refine ⟨k + 1, A2, c2, by omega, by go_num, (hb.trans (hbw.mono (by omega))).setCell (by simp) _, by have := hbw.size; simp; omega, (Below.heap_setCell _ _ _ _ (by simp)).trans H0.out, ?_, HG.out.set (by simp) _⟩
          rw [heap_setCell_same _ _ _ _ _ _ H1.out]
          rfl
        case measure => simp [intOf]; omega
      · have hq : (((d : Nat) : Int) == (m : Int)) = false := by simp; omega
        have Hone := Lib.hid (show one d m = 0 from if_neg he); clear he
        go_wp2_with fail
        go_quiet (fail)
        have hbw0 : Below wr.heap.size wr ((wr.drewN nq).alloc (.cells #[.int .u8 0] 5)) := (below_drewN (Below.refl _ _) nq).alloc (Nat.le_refl _) _
        go_wp2_with (at_builtin; refine wpList_append_bm (B := w.heap.size + 2) rfl (.tmp 32) (.tmp 34) rfl rfl (Ho.out.below hbw0).own ?qa (some ⟨wr.heap.size, 0, none⟩) 1 1 [0] rfl (Sl.one _ _ _ _ rfl) ?qb ?qc)
        case qa => simp; omega
        case qb => omega
        intro A2 c2 w2 ho2 hb2 hrow2
        have hbw : Below (w.heap.size + 2) wr w2 := (hbw0.mono hsz).trans hb2
        have m2' := (hbw.cell (p := ⟨w.heap.size + 1, 2, none⟩) (by simp)).trans m2
        have z2' := (hbw.frozen (p := ⟨w.heap.size + 1, 2, none⟩) (by simp)).trans z2
        have hr1' := (hbw.block (w.heap.size + 1) (by omega)).trans Hr1.out
        have hr0' := (hbw.block w.heap.size (by omega)).trans Hr0.out
        have hx2 := Hx.out
        rw [Hone.out] at hx2
        have G2 : Grow w2 (w.heap.size + 2) A2 (k + 1) c2 ((tabL N N one).take (k + 1)) := by
          rw [← hx2]
          exact ⟨by rw [cells_append]; exact ho2, fun _ => by rw [cells_append]; exact hrow2⟩
        have HG := Lib.hid G2; clear G2 ho2 hrow2 hx2
        have H0 := Lib.hid hr0'; clear hr0'
        have H1 := Lib.hid hr1'; clear hr1'
        go_wp2_with fail
        go_roundw
        case rel =>
          refine ⟨k + 1, A2, c2, by omega, by go_num, (hb.trans (hbw.mono (by omega))).setCell (by simp) _, by have := hbw.size; simp; omega, (Below.heap_setCell _ _ _ _ (by simp)).trans H0.out, ?_, HG.out.set (by simp) _⟩
          rw [heap_setCell_same _ _ _ _ _ _ H1.out]
          rfl
        case measure => simp [intOf]; omega
    · obtain rfl : k = K := by omega
      have r0 : wr.cell? ⟨w.heap.size, 0, none⟩ = some (.int .i64 0) := by rw [cell_of_row _ _ _ _ _ _ Hr0.out]; rfl
      have r1 : wr.cell? ⟨w.heap.size, 1, none⟩ = some (.int .i64 0) := by rw [cell_of_row _ _ _ _ _ _ Hr0.out]; rfl
      have r2 : wr.cell? ⟨w.heap.size, 2, none⟩ = some (.slice none 0 0) := by rw [cell_of_row _ _ _ _ _ _ Hr0.out]; rfl
      have y0 : wr.frozen? ⟨w.heap.size, 0, none⟩ = false := frozen_of_row _ _ _ _ _ Hr0.out
      have y1 : wr.frozen? ⟨w.heap.size, 1, none⟩ = false := frozen_of_row _ _ _ _ _ Hr0.out
      have y2 : wr.frozen? ⟨w.heap.size, 2, none⟩ = false := frozen_of_row _ _ _ _ _ Hr0.out
      go_wp2_with fail
      have e0 := heap_setCell_same wr w.heap.size 0 _ _ (.int .i64 (N : Int)) Hr0.out
      have e1 := heap_setCell_same _ w.heap.size 1 _ _ (.int .i64 (N : Int)) e0
      have e2 := heap_setCell_same _ w.heap.size 2 _ _ (.slice A' k c') e1
      refine bodyPost_ret (results_cell_pair Try.results19 _ _ w.heap.size 24 _ (0, 0) _ rfl e2 Try.underlying24 rfl size_matrix) rfl ?_
      refine ⟨A', c', rfl, ?_, ((hb.setCell (Nat.le_refl _) _).setCell (Nat.le_refl _) _).setCell (Nat.le_refl _) _⟩
      have hs := ((((Ho.out.set (p := ⟨w.heap.size, 0, none⟩) (by simp) (.int .i64 (N : Int))).set (p := ⟨w.heap.size, 1, none⟩) (by simp) (.int .i64 (N : Int))).set (p := ⟨w.heap.size, 2, none⟩) (by simp) (.slice A' k c'))).own.sl
      rwa [List.take_of_length_le (by rw [tabL_length, ← HK.out]; exact Nat.le_refl _)] at hs
end Go.Proofs.Ytccnoflgbopjlaa
