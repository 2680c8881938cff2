/-
  Contracts of package bitmap's search over runs, of the functions that Run hands in, and of Run. Condition: the table reads as the row lists it ('Tz').
-/
import Derived.Test.YthkflghekgbgcaaDoorEbe
import Derived.Deep.RegionHeld
import Derived.Laws.Tables
namespace Go.Proofs.YthkflghekgbgcaaDoor
open Go.RowKit Go.Proofs
set_option linter.unusedVariables false

/-- A run as a value; in a variable. -/
def rv (r : Nat × Nat) : Value := .agg #[.int .i64 (r.1 : Int), .int .i64 (r.2 : Int)]
def RunB (w : World) (b : Nat) (r : Nat × Nat) : Prop := w.heap[b]? = some (.cells #[.int .i64 (r.1 : Int), .int .i64 (r.2 : Int)] 55 (0, 0))
theorem size_run : (Tryd.prog.info? 55).map (·.size) = some 2 := by kernel_rfl
theorem run_one (f b : Int) : (#[Value.int .i64 f, Value.int .i64 b].all (·.oneCell')) = true := by simp [Value.oneCell']
theorem step_loadR {ρ : Operand → Value} {o : Oper} {x : Operand} {w : World} {b : Nat} {r : Nat × Nat} (ho : o.op = .load 55 x) (hx : ρ x = .pointer (some ⟨b, 0, none⟩)) (h : RunB w b r) : (execOp ρ o).run Tryd.prog w = .ok (.value (rv r)) w := by
  unfold execOp
  simp only [ho, hx, Instr.loadAt, Instr.sureAddr, Sem.run_bind, Sem.run_pure, Result.andThen_ok, run_loadVar_row w b _ 55 _ (0, 0) _ h Tryd.underlying55 rfl size_run]
  rfl
set_option maxRecDepth 20000 in
set_option maxHeartbeats 800000 in
theorem long12_any (r : Nat × Nat) (bm m : Nat) (hf : r.1 < 1000000) (hb : r.2 < 1000000) (w : World) (hm : w.cell? ⟨bm, 0, none⟩ = some (.int .i64 (m : Int))) :
    Calls Tryd.prog 32 #[rv r, .pointer (some ⟨bm, 0, none⟩)] w fun e w' => e = .returned (.bool (decide ((m : Int) ≤ (r.2 : Int) - (r.1 : Int)))) ∧ Below w.heap.size w w' := by
  obtain ⟨f, b⟩ := r
  have hf : f < 1000000 := hf
  have hb : b < 1000000 := hb
  have hb0 : Below w.heap.size w (w.alloc (.cells #[.int .i64 (f : Int), .int .i64 (b : Int)] 55)) := (Below.refl _ _).alloc (Nat.le_refl _) _
  have hm2 : (w.alloc (.cells #[.int .i64 (f : Int), .int .i64 (b : Int)] 55)).cell? ⟨bm, 0, none⟩ = some (.int .i64 (m : Int)) := (hb0.cell (p := ⟨bm, 0, none⟩) (World.block_lt_of_cell? w _ hm)).trans hm
  have Hb0 := Lib.hid hb0
  clear hb0
  show Calls Tryd.prog 32 #[.agg #[.int .i64 (f : Int), .int .i64 (b : Int)], .pointer (some ⟨bm, 0, none⟩)] w fun e w' => e = .returned (.bool (decide ((m : Int) ≤ (b : Int) - (f : Int)))) ∧ Below w.heap.size w w'
  go_enter Tryd.func32, Tryd.ntmps32
  go_wp2_with fail
  go_ret
  exact ⟨rfl, Hb0.out⟩

/-- Function values that tell whether a run is long enough, in their variables. -/
structure Lng (w : World) (bl bm m : Nat) : Prop where
  many : w.cell? ⟨bm, 0, none⟩ = some (.int .i64 (m : Int))
  fn : w.cell? ⟨bl, 0, none⟩ = some (.func (.func 32) #[] #[.pointer (some ⟨bm, 0, none⟩)])
theorem Lng.keep {w w' : World} {bl bm m : Nat} (h : Lng w bl bm m) (hb : Below w.heap.size w w') : Lng w' bl bm m :=
  have hf : Fr (fun _ => False) w w' := Fr.of_below hb
  ⟨hf.cell_some h.many (fun h => h), hf.cell_some h.fn (fun h => h)⟩
theorem Lng.keepAt {w w' : World} {B bl bm m : Nat} (h : Lng w bl bm m) (hb : Below B w w') (h1 : bl < B) (h2 : bm < B) : Lng w' bl bm m :=
  have hf : Fr (fun k => B ≤ k) w w' := Fr.of_belowAt hb (fun k h => h)
  ⟨hf.cell_some h.many (by show ¬ B ≤ bm; omega), hf.cell_some h.fn (by show ¬ B ≤ bl; omega)⟩

set_option maxRecDepth 20000 in
set_option maxHeartbeats 1600000 in
theorem run2_any (r : Nat × Nat) (bm bl m p : Nat) (hf : r.1 < 100000) (hb : r.2 < 100000) (hp : p < 100000) (w : World) (hl : Lng w bl bm m) :
    Calls Tryd.prog 34 #[rv r, .int .i64 (p : Int), .pointer (some ⟨bl, 0, none⟩)] w fun e w' => e = .returned (.tuple #[rv (runF m r p).1, .bool (runF m r p).2]) ∧ Below w.heap.size w w' := by
  obtain ⟨f, b⟩ := r
  have hf : f < 100000 := hf
  have hb : b < 100000 := hb
  obtain ⟨f', hf'⟩ : ∃ f', f' = if p = b then f else p := ⟨_, rfl⟩
  have hF : runF m (f, b) p = ((f', p + 1), decide ((m : Int) ≤ ((p + 1 : Nat) : Int) - (f' : Int))) := by rw [hf']; rfl
  rw [hF]
  have hfl : f' < 100000 := by rw [hf']; split <;> omega
  clear hF
  have hres : ∀ wl : World, Below w.heap.size w wl → RunB wl w.heap.size (f', p + 1) → RunB wl (w.heap.size + 1) (0, 0) → Lng wl bl bm m → Lng wl.drew bl bm m := fun wl _ _ _ h => h.keep (Below.drew (Below.refl _ _))
  show Calls Tryd.prog 34 #[.agg #[.int .i64 (f : Int), .int .i64 (b : Int)], .int .i64 (p : Int), .pointer (some ⟨bl, 0, none⟩)] w fun e w' => e = .returned (.tuple #[rv (f', p + 1), .bool (decide ((m : Int) ≤ ((p + 1 : Nat) : Int) - (f' : Int)))]) ∧ Below w.heap.size w w'
  have hbl := World.block_lt_of_cell? w _ hl.fn
  have hbm := World.block_lt_of_cell? w _ hl.many
  have hbl' : bl < w.heap.size := hbl
  have hbm' : bm < w.heap.size := hbm
  have Hl := Lib.hid hl
  clear hbl hbm hl hres
  have hpb : (p : Int) + 1 = ((p + 1 : Nat) : Int) := by omega
  have Hpb := Lib.hid hpb
  clear hpb
  by_cases e : p = b
  · rw [if_pos e] at hf'
    have hz : ((p : Int) != (b : Int)) = false := by simp; omega
    have He := Lib.hid e
    have Hf' := Lib.hid hf'
    clear e hf'
    go_enter Tryd.func34, Tryd.ntmps34
    go_wp2_with fail
    have hb0 : Below w.heap.size w (w.alloc (.cells #[.int .i64 (f' : Int), .int .i64 ((p + 1 : Nat) : Int)] 55)) := (Below.refl _ _).alloc (Nat.le_refl _) _
    rw [Hpb.out, show (f : Int) = (f' : Int) by rw [Hf'.out]]
    obtain ⟨wl, hwl⟩ : ∃ x, x = (w.alloc (.cells #[.int .i64 (f' : Int), .int .i64 ((p + 1 : Nat) : Int)] 55)).alloc (.cells #[.int .i64 0, .int .i64 0] 55) := ⟨_, rfl⟩
    have hbl2 : Below w.heap.size w wl := by rw [hwl]; exact hb0.alloc hb0.size _
    have h3 : RunB wl w.heap.size (f', p + 1) := by rw [hwl]; exact (Below.heap_alloc _ _ _ (by simp)).trans (heap_alloc_new w _)
    have h5 : RunB wl (w.heap.size + 1) (0, 0) := by
      rw [hwl]
      have := heap_alloc_new (w.alloc (.cells #[.int .i64 (f' : Int), .int .i64 ((p + 1 : Nat) : Int)] 55)) (.cells #[.int .i64 0, .int .i64 0] 55)
      rw [show (w.alloc (.cells #[.int .i64 (f' : Int), .int .i64 ((p + 1 : Nat) : Int)] 55)).heap.size = w.heap.size + 1 by simp] at this
      exact this
    have H3 := Lib.hid h3
    have H5 := Lib.hid h5
    have Hl2 := Lib.hid (Hl.out.keep hbl2)
    have Hbl := Lib.hid hbl2
    have N3 := Lib.hid (show ¬ w.heap.size = w.heap.size + 1 by omega)
    have N1 := Lib.hid (show ¬ bl = w.heap.size + 1 by omega)
    rw [← hwl]
    clear hb0 h3 h5 hbl2 hwl
    refine wp_region_held_drew (S := fun w' => Fr (fun k => k = w.heap.size + 1) wl.drew w') (by kernel_rfl) (Fr.refl _ _) (fun hHeld => ?_)
    clear hHeld
    refine wpAnyH_take (i := 0) (oi := ⟨some 16, _, _, _, _, _⟩) (v := (rv (f', p + 1))) rfl (by kernel_rfl) (by kernel_rfl) (by kernel_rfl) (fun _ _ _ h => h) (Or.inl ⟨by rfl, ?ys0⟩) (Fr.refl _ _) ?rs0
    case ys0 =>
      intro wq hSw
      exact step_loadR (x := .tmp 3) rfl rfl (hSw.row_some H3.out N3.out)
    try simp only [Act.put, List.setIfInBounds_toArray, List.set_cons_zero, List.set_cons_succ]
    refine wpAnyH_take (i := 1) (oi := ⟨some 17, _, _, _, _, _⟩) (v := ?vs1) rfl (by kernel_rfl) (by kernel_rfl) (by kernel_rfl) (fun _ _ _ h => h) (Or.inl ⟨by rfl, ?ys1⟩) (Fr.refl _ _) ?rs1
    case ys1 =>
      intro wq hSw
      (try dsimp only at hSw)
      have hq := hSw.cell_some Hl2.out.fn N1.out
      first | (go_simp; done) | (go_simp; with_reducible rfl)
    try simp only [Act.put, List.setIfInBounds_toArray, List.set_cons_zero, List.set_cons_succ]
    refine wpAnyH_take (i := 2) (oi := ⟨some 18, _, _, _, _, _⟩) (v := (rv (f', p + 1))) rfl (by kernel_rfl) (by kernel_rfl) (by kernel_rfl) (fun _ _ _ h => h) (Or.inl ⟨by rfl, ?ys2⟩) (Fr.refl _ _) ?rs2
    case ys2 =>
      intro wq hSw
      exact step_loadR (x := .tmp 3) rfl rfl (hSw.row_some H3.out N3.out)
    try simp only [Act.put, List.setIfInBounds_toArray, List.set_cons_zero, List.set_cons_succ]
    refine wpAnyH_ready (rs := [3]) (by kernel_rfl) (by simp) ?_
    refine AllReadyH.cons (o := ⟨some 19, _, _, _, _, _⟩) rfl (fun K hK => ?_) AllReadyH.nil
    go_simp
    refine (long12_any (f', p + 1) bm m (by show f' < 1000000; omega) (by show p + 1 < 1000000; omega) wl.drew (Hl2.out.keep (Below.drew (Below.refl _ _))).many).mono ?_; rintro e w2 ⟨rfl, hb2⟩
    have hfr : Fr (fun k => k = w.heap.size + 1) wl.drew w2 := Fr.of_below hb2
    have HF1 := Lib.hid hfr
    have H52 := Lib.hid (hb2.block _ (block_lt H5.out) |>.trans H5.out)
    clear hb2
    go_wp2_with fail
    refine hK.out _ _ hfr (fun hHeld => ?_)
    clear hK K hHeld
    try simp only [Act.put, List.setIfInBounds_toArray, List.set_cons_zero, List.set_cons_succ]
    refine wpAnyH_re (S' := fun w' => Fr (fun k => k = w.heap.size + 1) w2 w') (fun w' h => hfr.trans h) ?_
    clear hfr
    refine wpAnyH_ready (rs := [4]) (by kernel_rfl) (by simp) ?_
    refine AllReadyH.cons (o := ⟨none, _, _, _, _, _⟩) rfl (fun K hK => ?_) AllReadyH.nil
    refine wp_store_row (o := ⟨none, _, _, _, _, _⟩) 55 (.tmp 5) (.tmp 16) rfl (w.heap.size + 1) #[.int .i64 (f' : Int), .int .i64 ((p + 1 : Nat) : Int)] rfl rfl 55 _ H52.out size_run rfl (run_one _ _) ?_
    have hfr : Fr (fun k => k = w.heap.size + 1) w2 (w2.setRow (w.heap.size + 1) #[.int .i64 (f' : Int), .int .i64 ((p + 1 : Nat) : Int)]) := ⟨rfl, rfl, rfl, by simp, fun k hk hnk => setRow_other w2 (w.heap.size + 1) k _ hnk⟩
    have hrow := setRow_heap w2 (w.heap.size + 1) _ #[.int .i64 (f' : Int), .int .i64 ((p + 1 : Nat) : Int)] _ (0, 0) H52.out
    obtain ⟨w4, hw4⟩ : ∃ w4, w4 = w2.setRow (w.heap.size + 1) #[.int .i64 (f' : Int), .int .i64 ((p + 1 : Nat) : Int)] := ⟨_, rfl⟩
    rw [← hw4] at hfr hrow ⊢
    have HR := Lib.hid hrow
    have HF2 := Lib.hid hfr
    clear hrow hw4
    refine hK.out _ _ hfr (fun hHeld => ?_)
    clear hK K hHeld
    try simp only [Act.put]
    refine wpAnyH_re (S' := fun w' => Fr (fun k => k = w.heap.size + 1) w4 w') (fun w' h => hfr.trans h) ?_
    clear hfr
    refine wpAnyH_take (i := 5) (oi := ⟨some 6, _, _, _, _, _⟩) (v := ?vs5) rfl (by kernel_rfl) (by kernel_rfl) (by kernel_rfl) (fun _ _ _ h => h) (Or.inl ⟨by rfl, ?ys5⟩) (Fr.refl _ _) ?rs5
    case ys5 =>
      intro wq hSw
      (try dsimp only at hSw)
      first | (go_simp; done) | (go_simp; with_reducible rfl)
    try simp only [Act.put, List.setIfInBounds_toArray, List.set_cons_zero, List.set_cons_succ]
    refine wpAnyH_done (by kernel_rfl) ?_ _
    go_wp2_with fail
    refine bodyPost_ret (results_cell_pair Tryd.results34 _ _ (w.heap.size + 1) 55 _ (0, 0) _ rfl HR.out Tryd.underlying55 rfl size_run) rfl ⟨rfl, ?_⟩
    have hbd : Below w.heap.size w wl.drew := Hbl.out.trans (Below.drew (Below.refl _ _))
    exact hbd.trans (((HF1.out.trans HF2.out).below hbd.size (fun k hk => by have hk : k = w.heap.size + 1 := hk; omega)))
  · rw [if_neg e] at hf'
    have hz : ((p : Int) != (b : Int)) = true := by simp; omega
    have He := Lib.hid e
    have Hf' := Lib.hid hf'
    clear e hf'
    go_enter Tryd.func34, Tryd.ntmps34
    go_wp2_with fail
    have hb0 : Below w.heap.size w (w.alloc (.cells #[.int .i64 (f' : Int), .int .i64 ((p + 1 : Nat) : Int)] 55)) := (Below.refl _ _).alloc (Nat.le_refl _) _
    rw [Hpb.out, show (p : Int) = (f' : Int) by rw [Hf'.out]]
    obtain ⟨wl, hwl⟩ : ∃ x, x = (w.alloc (.cells #[.int .i64 (f' : Int), .int .i64 ((p + 1 : Nat) : Int)] 55)).alloc (.cells #[.int .i64 0, .int .i64 0] 55) := ⟨_, rfl⟩
    have hbl2 : Below w.heap.size w wl := by rw [hwl]; exact hb0.alloc hb0.size _
    have h3 : RunB wl w.heap.size (f', p + 1) := by rw [hwl]; exact (Below.heap_alloc _ _ _ (by simp)).trans (heap_alloc_new w _)
    have h5 : RunB wl (w.heap.size + 1) (0, 0) := by
      rw [hwl]
      have := heap_alloc_new (w.alloc (.cells #[.int .i64 (f' : Int), .int .i64 ((p + 1 : Nat) : Int)] 55)) (.cells #[.int .i64 0, .int .i64 0] 55)
      rw [show (w.alloc (.cells #[.int .i64 (f' : Int), .int .i64 ((p + 1 : Nat) : Int)] 55)).heap.size = w.heap.size + 1 by simp] at this
      exact this
    have H3 := Lib.hid h3
    have H5 := Lib.hid h5
    have Hl2 := Lib.hid (Hl.out.keep hbl2)
    have Hbl := Lib.hid hbl2
    have N3 := Lib.hid (show ¬ w.heap.size = w.heap.size + 1 by omega)
    have N1 := Lib.hid (show ¬ bl = w.heap.size + 1 by omega)
    rw [← hwl]
    clear hb0 h3 h5 hbl2 hwl
    refine wp_region_held_drew (S := fun w' => Fr (fun k => k = w.heap.size + 1) wl.drew w') (by kernel_rfl) (Fr.refl _ _) (fun hHeld => ?_)
    clear hHeld
    refine wpAnyH_take (i := 0) (oi := ⟨some 16, _, _, _, _, _⟩) (v := (rv (f', p + 1))) rfl (by kernel_rfl) (by kernel_rfl) (by kernel_rfl) (fun _ _ _ h => h) (Or.inl ⟨by rfl, ?yu0⟩) (Fr.refl _ _) ?ru0
    case yu0 =>
      intro wq hSw
      exact step_loadR (x := .tmp 3) rfl rfl (hSw.row_some H3.out N3.out)
    try simp only [Act.put, List.setIfInBounds_toArray, List.set_cons_zero, List.set_cons_succ]
    refine wpAnyH_take (i := 1) (oi := ⟨some 17, _, _, _, _, _⟩) (v := ?vu1) rfl (by kernel_rfl) (by kernel_rfl) (by kernel_rfl) (fun _ _ _ h => h) (Or.inl ⟨by rfl, ?yu1⟩) (Fr.refl _ _) ?ru1
    case yu1 =>
      intro wq hSw
      (try dsimp only at hSw)
      have hq := hSw.cell_some Hl2.out.fn N1.out
      first | (go_simp; done) | (go_simp; with_reducible rfl)
    try simp only [Act.put, List.setIfInBounds_toArray, List.set_cons_zero, List.set_cons_succ]
    refine wpAnyH_take (i := 2) (oi := ⟨some 18, _, _, _, _, _⟩) (v := (rv (f', p + 1))) rfl (by kernel_rfl) (by kernel_rfl) (by kernel_rfl) (fun _ _ _ h => h) (Or.inl ⟨by rfl, ?yu2⟩) (Fr.refl _ _) ?ru2
    case yu2 =>
      intro wq hSw
      exact step_loadR (x := .tmp 3) rfl rfl (hSw.row_some H3.out N3.out)
    try simp only [Act.put, List.setIfInBounds_toArray, List.set_cons_zero, List.set_cons_succ]
    refine wpAnyH_ready (rs := [3]) (by kernel_rfl) (by simp) ?_
    refine AllReadyH.cons (o := ⟨some 19, _, _, _, _, _⟩) rfl (fun K hK => ?_) AllReadyH.nil
    go_simp
    refine (long12_any (f', p + 1) bm m (by show f' < 1000000; omega) (by show p + 1 < 1000000; omega) wl.drew (Hl2.out.keep (Below.drew (Below.refl _ _))).many).mono ?_; rintro e w2 ⟨rfl, hb2⟩
    have hfr : Fr (fun k => k = w.heap.size + 1) wl.drew w2 := Fr.of_below hb2
    have HF1 := Lib.hid hfr
    have H52 := Lib.hid (hb2.block _ (block_lt H5.out) |>.trans H5.out)
    clear hb2
    go_wp2_with fail
    refine hK.out _ _ hfr (fun hHeld => ?_)
    clear hK K hHeld
    try simp only [Act.put, List.setIfInBounds_toArray, List.set_cons_zero, List.set_cons_succ]
    refine wpAnyH_re (S' := fun w' => Fr (fun k => k = w.heap.size + 1) w2 w') (fun w' h => hfr.trans h) ?_
    clear hfr
    refine wpAnyH_ready (rs := [4]) (by kernel_rfl) (by simp) ?_
    refine AllReadyH.cons (o := ⟨none, _, _, _, _, _⟩) rfl (fun K hK => ?_) AllReadyH.nil
    refine wp_store_row (o := ⟨none, _, _, _, _, _⟩) 55 (.tmp 5) (.tmp 16) rfl (w.heap.size + 1) #[.int .i64 (f' : Int), .int .i64 ((p + 1 : Nat) : Int)] rfl rfl 55 _ H52.out size_run rfl (run_one _ _) ?_
    have hfr : Fr (fun k => k = w.heap.size + 1) w2 (w2.setRow (w.heap.size + 1) #[.int .i64 (f' : Int), .int .i64 ((p + 1 : Nat) : Int)]) := ⟨rfl, rfl, rfl, by simp, fun k hk hnk => setRow_other w2 (w.heap.size + 1) k _ hnk⟩
    have hrow := setRow_heap w2 (w.heap.size + 1) _ #[.int .i64 (f' : Int), .int .i64 ((p + 1 : Nat) : Int)] _ (0, 0) H52.out
    obtain ⟨w4, hw4⟩ : ∃ w4, w4 = w2.setRow (w.heap.size + 1) #[.int .i64 (f' : Int), .int .i64 ((p + 1 : Nat) : Int)] := ⟨_, rfl⟩
    rw [← hw4] at hfr hrow ⊢
    have HR := Lib.hid hrow
    have HF2 := Lib.hid hfr
    clear hrow hw4
    refine hK.out _ _ hfr (fun hHeld => ?_)
    clear hK K hHeld
    try simp only [Act.put]
    refine wpAnyH_re (S' := fun w' => Fr (fun k => k = w.heap.size + 1) w4 w') (fun w' h => hfr.trans h) ?_
    clear hfr
    refine wpAnyH_take (i := 5) (oi := ⟨some 6, _, _, _, _, _⟩) (v := ?vu5) rfl (by kernel_rfl) (by kernel_rfl) (by kernel_rfl) (fun _ _ _ h => h) (Or.inl ⟨by rfl, ?yu5⟩) (Fr.refl _ _) ?ru5
    case yu5 =>
      intro wq hSw
      (try dsimp only at hSw)
      first | (go_simp; done) | (go_simp; with_reducible rfl)
    try simp only [Act.put, List.setIfInBounds_toArray, List.set_cons_zero, List.set_cons_succ]
    refine wpAnyH_done (by kernel_rfl) ?_ _
    go_wp2_with fail
    refine bodyPost_ret (results_cell_pair Tryd.results34 _ _ (w.heap.size + 1) 55 _ (0, 0) _ rfl HR.out Tryd.underlying55 rfl size_run) rfl ⟨rfl, ?_⟩
    have hbd : Below w.heap.size w wl.drew := Hbl.out.trans (Below.drew (Below.refl _ _))
    exact hbd.trans (((HF1.out.trans HF2.out).below hbd.size (fun k hk => by have hk : k = w.heap.size + 1 := hk; omega)))
end Go.Proofs.YthkflghekgbgcaaDoor
