/-
  Layer 12's act: both maps answer the same. Condition: the table reads as the row lists it ('Tz').
-/
import Derived.Test.YthkflghekgbgcaaDoorEbl
import Derived.Test.YthkflghekgbgcaaDoorEbo
import Derived.Test.YthkflghekgbgcaaDoorEbp
import Derived.Deep.RegionHeld
namespace Go.Proofs.YthkflghekgbgcaaDoor
open Go.RowKit Go.Proofs
set_option linter.unusedVariables false

/-- A map and the document's, side by side; what turns lies at block s0 or above. -/
structure Py12 (s0 : Nat) (w : World) (M B X n : Nat) (f : Nat → Bool) (A : Option Addr) : Prop where
  p : Bp w M B n f
  x : Xp w X n f A
  mx : M ≠ X
  bx : B ≠ X
  ab : 0 < cntL n f → ∀ b o, A = some ⟨b, o, none⟩ → b ≠ B
  lb : s0 ≤ B
  lx : s0 ≤ X
section
variable {s0 : Nat} {w w' : World} {M B X n : Nat} {f : Nat → Bool} {A : Option Addr}
theorem Py12.later (h : Py12 s0 w M B X n f A) (hb : Below w.heap.size w w') : Py12 s0 w' M B X n f A := ⟨h.p.later hb, h.x.later hb, h.mx, h.bx, h.ab, h.lb, h.lx⟩
/-- The one is turned, the other not yet. -/
theorem Py12.half (h : Py12 s0 w M B X n f A) (hf : Fr (fun b => b = B) w w') : Xp w' X n f A := h.x.fr hf (fun e => h.bx e.symm) (fun h0 b o e k => h.ab h0 b o e k)
theorem Py12.both {f' : Nat → Bool} {w2 : World} {A' : Option Addr} (h : Py12 s0 w M B X n f A) (hp : Bp w' M B n f') (hs : w.heap.size ≤ w'.heap.size) (hx : Xp w2 X n f' A') (hf : Fr (fun b => b = X) w' w2) (ha : (A' = A ∧ f' = f) ∨ ∀ b o, A' = some ⟨b, o, none⟩ → w'.heap.size ≤ b) : Py12 s0 w2 M B X n f' A' := by
  refine ⟨hp.fr hf h.mx h.bx, hx, h.mx, h.bx, ?_, h.lb, h.lx⟩
  rcases ha with ⟨rfl, rfl⟩ | ha
  · exact h.ab
  · intro _ b o e k
    have := ha b o e
    have := h.p.ltB
    omega
theorem Fr.below2 {s : Nat} {a b : World} (h : Fr (fun k => k = B ∨ k = X) a b) (hs : s ≤ a.heap.size) (h1 : s ≤ B) (h2 : s ≤ X) : Below s a b := h.below hs (fun k hk => by
  have hk : k = B ∨ k = X := hk
  omega)
/-- A copy in the place of the one. -/
theorem Py12.copied {M' B' : Nat} (h : Py12 s0 w M B X n f A) (hp : Bp w' M' B' n f) (hb : Below w.heap.size w w') (hM : w.heap.size ≤ M') (hB : w.heap.size ≤ B') (hs : s0 ≤ w.heap.size) : Py12 s0 w' M' B' X n f A := by
  have hx := h.x.lt
  refine ⟨hp, h.x.later hb, by omega, by omega, fun h0 b o e k => ?_, by omega, h.lx⟩
  have := h.x.ltA h0 b o e
  omega
end
/-- What act answers. -/
def RetAct (s0 : Nat) (M B X n : Nat) (w : World) (e : Ending) (w' : World) : Prop := e = .returned (.bool true) ∧ ∃ f' A', Py12 s0 w' M B X n f' A' ∧ Fr (fun k => k = B ∨ k = X) w w'
/-- An act as it lies in a variable. -/
def ActB (w : World) (b : Nat) (k a m : Int) : Prop := w.heap[b]? = some (.cells #[.int .i64 k, .int .i64 a, .int .i64 m] 29 (0, 0))

set_option maxRecDepth 20000 in
set_option maxHeartbeats 1600000 in
theorem act_set0 (s0 M B X n : Nat) (f : Nat → Bool) (A : Option Addr) (at_ many : Int) (w : World) (h : Py12 s0 w M B X n f A) :
    Calls Tryd.prog 11 #[.pointer (some ⟨M, 0, none⟩), .pointer (some ⟨X, 0, none⟩), .agg #[.int .i64 0, .int .i64 at_, .int .i64 many]] w (RetAct s0 M B X n w) := by
  obtain ⟨wl, hwl⟩ : ∃ x, x = w.alloc (.cells #[.int .i64 0, .int .i64 at_, .int .i64 many] 29) := ⟨_, rfl⟩
  have hbl : Below w.heap.size w wl := by rw [hwl]; exact (Below.refl _ _).alloc (Nat.le_refl _) _
  have hbx : ActB wl w.heap.size 0 at_ many := by rw [hwl]; exact heap_alloc_new w _
  have HP := Lib.hid (h.later hbl)
  have Hbl := Lib.hid hbl
  have C0 := Lib.hid (show wl.cell? ⟨w.heap.size, 0, none⟩ = some (.int .i64 0) by rw [cell_of_row _ _ _ _ _ _ hbx]; rfl)
  have C1 := Lib.hid (show wl.cell? ⟨w.heap.size, 1, none⟩ = some (.int .i64 at_) by rw [cell_of_row _ _ _ _ _ _ hbx]; rfl)
  have N5 := Lib.hid (show ¬ (w.heap.size = B ∨ w.heap.size = X) by have := h.p.ltB; have := h.x.lt; omega)
  obtain ⟨y, hy⟩ : ∃ y, y = setB n f at_ true := ⟨_, rfl⟩
  have Hy := Lib.hid hy
  clear hbl hbx h hy
  go_enter Tryd.func11, Tryd.ntmps11
  go_wp2_with fail
  rw [← hwl]
  clear hwl
  refine wp_region_held_drew (S := fun w' => Fr (fun k => k = B ∨ k = X) wl.drew w') (by kernel_rfl) (Fr.refl _ _) (fun hHeld => ?_)
  clear hHeld
  refine wpAnyH_take (i := 0) (oi := ⟨some 17, _, _, _, _, _⟩) (v := ?vs0) rfl (by kernel_rfl) (by kernel_rfl) (by kernel_rfl) (fun _ _ _ h => h) (Or.inl ⟨by rfl, ?ys0⟩) (Fr.refl _ _) ?rs0
  case ys0 =>
    intro wq hSw
    (try dsimp only at hSw)
    first | (go_simp; done) | (go_simp; with_reducible rfl)
  try simp only [Act.put, List.setIfInBounds_toArray, List.set_cons_zero, List.set_cons_succ]
  refine wpAnyH_take (i := 1) (oi := ⟨some 18, _, _, _, _, _⟩) (v := ?vs1) rfl (by kernel_rfl) (by kernel_rfl) (by kernel_rfl) (fun _ _ _ h => h) (Or.inl ⟨by rfl, ?ys1⟩) (Fr.refl _ _) ?rs1
  case ys1 =>
    intro wq hSw
    (try dsimp only at hSw)
    first | (go_simp; done) | (go_simp; with_reducible rfl)
  try simp only [Act.put, List.setIfInBounds_toArray, List.set_cons_zero, List.set_cons_succ]
  refine wpAnyH_take (i := 2) (oi := ⟨some 19, _, _, _, _, _⟩) (v := ?vs2) rfl (by kernel_rfl) (by kernel_rfl) (by kernel_rfl) (fun _ _ _ h => h) (Or.inl ⟨by rfl, ?ys2⟩) (Fr.refl _ _) ?rs2
  case ys2 =>
    intro wq hSw
    (try dsimp only at hSw)
    have hq := hSw.cell_some C1.out N5.out
    first | (go_simp; done) | (go_simp; with_reducible rfl)
  try simp only [Act.put, List.setIfInBounds_toArray, List.set_cons_zero, List.set_cons_succ]
  refine wpAnyH_take (i := 3) (oi := ⟨some 20, _, _, _, _, _⟩) (v := ?vs3) rfl (by kernel_rfl) (by kernel_rfl) (by kernel_rfl) (fun _ _ _ h => h) (Or.inl ⟨by rfl, ?ys3⟩) (Fr.refl _ _) ?rs3
  case ys3 =>
    intro wq hSw
    (try dsimp only at hSw)
    first | (go_simp; done) | (go_simp; with_reducible rfl)
  try simp only [Act.put, List.setIfInBounds_toArray, List.set_cons_zero, List.set_cons_succ]
  refine wpAnyH_take (i := 4) (oi := ⟨some 21, _, _, _, _, _⟩) (v := ?vs4) rfl (by kernel_rfl) (by kernel_rfl) (by kernel_rfl) (fun _ _ _ h => h) (Or.inl ⟨by rfl, ?ys4⟩) (Fr.refl _ _) ?rs4
  case ys4 =>
    intro wq hSw
    (try dsimp only at hSw)
    have hq := hSw.cell_some C0.out N5.out
    first | (go_simp; done) | (go_simp; with_reducible rfl)
  try simp only [Act.put, List.setIfInBounds_toArray, List.set_cons_zero, List.set_cons_succ]
  refine wpAnyH_take (i := 5) (oi := ⟨some 22, _, _, _, _, _⟩) (v := ?vs5) rfl (by kernel_rfl) (by kernel_rfl) (by kernel_rfl) (fun _ _ _ h => h) (Or.inl ⟨by rfl, ?ys5⟩) (Fr.refl _ _) ?rs5
  case ys5 =>
    intro wq hSw
    (try dsimp only at hSw)
    first | (go_simp; done) | (go_simp; with_reducible rfl)
  try simp only [Act.put, List.setIfInBounds_toArray, List.set_cons_zero, List.set_cons_succ]
  refine wpAnyH_take (i := 7) (oi := ⟨some 24, _, _, _, _, _⟩) (v := ?vs7) rfl (by kernel_rfl) (by kernel_rfl) (by kernel_rfl) (fun _ _ _ h => h) (Or.inl ⟨by rfl, ?ys7⟩) (Fr.refl _ _) ?rs7
  case ys7 =>
    intro wq hSw
    (try dsimp only at hSw)
    first | (go_simp; done) | (go_simp; with_reducible rfl)
  try simp only [Act.put, List.setIfInBounds_toArray, List.set_cons_zero, List.set_cons_succ]
  refine wpAnyH_take (i := 8) (oi := ⟨some 25, _, _, _, _, _⟩) (v := ?vs8) rfl (by kernel_rfl) (by kernel_rfl) (by kernel_rfl) (fun _ _ _ h => h) (Or.inl ⟨by rfl, ?ys8⟩) (Fr.refl _ _) ?rs8
  case ys8 =>
    intro wq hSw
    (try dsimp only at hSw)
    first | (go_simp; done) | (go_simp; with_reducible rfl)
  try simp only [Act.put, List.setIfInBounds_toArray, List.set_cons_zero, List.set_cons_succ]
  refine wpAnyH_take (i := 9) (oi := ⟨some 26, _, _, _, _, _⟩) (v := ?vs9) rfl (by kernel_rfl) (by kernel_rfl) (by kernel_rfl) (fun _ _ _ h => h) (Or.inl ⟨by rfl, ?ys9⟩) (Fr.refl _ _) ?rs9
  case ys9 =>
    intro wq hSw
    (try dsimp only at hSw)
    have hq := hSw.cell_some C1.out N5.out
    first | (go_simp; done) | (go_simp; with_reducible rfl)
  try simp only [Act.put, List.setIfInBounds_toArray, List.set_cons_zero, List.set_cons_succ]
  refine wpAnyH_take (i := 10) (oi := ⟨some 27, _, _, _, _, _⟩) (v := ?vs10) rfl (by kernel_rfl) (by kernel_rfl) (by kernel_rfl) (fun _ _ _ h => h) (Or.inl ⟨by rfl, ?ys10⟩) (Fr.refl _ _) ?rs10
  case ys10 =>
    intro wq hSw
    (try dsimp only at hSw)
    first | (go_simp; done) | (go_simp; with_reducible rfl)
  try simp only [Act.put, List.setIfInBounds_toArray, List.set_cons_zero, List.set_cons_succ]
  refine wpAnyH_take (i := 11) (oi := ⟨some 28, _, _, _, _, _⟩) (v := ?vs11) rfl (by kernel_rfl) (by kernel_rfl) (by kernel_rfl) (fun _ _ _ h => h) (Or.inl ⟨by rfl, ?ys11⟩) (Fr.refl _ _) ?rs11
  case ys11 =>
    intro wq hSw
    (try dsimp only at hSw)
    have hq := hSw.cell_some C0.out N5.out
    first | (go_simp; done) | (go_simp; with_reducible rfl)
  try simp only [Act.put, List.setIfInBounds_toArray, List.set_cons_zero, List.set_cons_succ]
  refine wpAnyH_take (i := 12) (oi := ⟨some 29, _, _, _, _, _⟩) (v := ?vs12) rfl (by kernel_rfl) (by kernel_rfl) (by kernel_rfl) (fun _ _ _ h => h) (Or.inl ⟨by rfl, ?ys12⟩) (Fr.refl _ _) ?rs12
  case ys12 =>
    intro wq hSw
    (try dsimp only at hSw)
    first | (go_simp; done) | (go_simp; with_reducible rfl)
  try simp only [Act.put, List.setIfInBounds_toArray, List.set_cons_zero, List.set_cons_succ]
  refine wpAnyH_ready (rs := [6]) (by kernel_rfl) (by simp) ?_
  refine AllReadyH.cons (o := ⟨some 23, _, _, _, _, _⟩) rfl (fun K hK => ?_) AllReadyH.nil
  go_simp
  refine (set_any M B n at_ f true wl.drew (HP.out.p.later (Below.drew (Below.refl _ _)))).mono ?_; rintro e w2 ⟨rfl, hp2, hf2⟩
  have hx2 := (HP.out.later (Below.drew (Below.refl _ _))).half hf2
  have hfr : Fr (fun k => k = B ∨ k = X) wl.drew w2 := hf2.mono (fun b hb => .inl hb)
  have HF1 := Lib.hid hfr
  have HP2 := Lib.hid hp2
  have HX2 := Lib.hid hx2
  have HS2 := Lib.hid (show wl.heap.size ≤ w2.heap.size from hf2.size)
  have C0 := Lib.hid (hfr.cell_some C0.out N5.out)
  have C1 := Lib.hid (hfr.cell_some C1.out N5.out)
  rw [← Hy.out]
  clear hp2 hf2 hx2
  go_wp2_with fail
  refine hK.out _ _ hfr (fun hHeld => ?_)
  clear hK K hHeld
  try simp only [Act.put, List.setIfInBounds_toArray, List.set_cons_zero, List.set_cons_succ]
  refine wpAnyH_re (S' := fun w' => Fr (fun k => k = B ∨ k = X) w2 w') (fun w' h => hfr.trans h) ?_
  clear hfr
  refine wpAnyH_ready (rs := [13]) (by kernel_rfl) (by simp) ?_
  refine AllReadyH.cons (o := ⟨some 30, _, _, _, _, _⟩) rfl (fun K hK => ?_) AllReadyH.nil
  go_simp
  refine (rmpset_any X n f A at_ true w2 HX2.out).mono ?_; rintro e w3 ⟨rfl, A', hx3, hf3, ha3⟩
  have hfr : Fr (fun k => k = B ∨ k = X) w2 w3 := hf3.mono (fun b hb => .inr hb)
  have HF2 := Lib.hid hfr
  have HP3 := Lib.hid (HP.out.both HP2.out HS2.out hx3 hf3 ha3)
  rw [← Hy.out]
  clear hx3 hf3 ha3
  go_wp2_with fail
  refine hK.out _ _ hfr (fun hHeld => ?_)
  clear hK K hHeld
  try simp only [Act.put, List.setIfInBounds_toArray, List.set_cons_zero, List.set_cons_succ]
  refine wpAnyH_re (S' := fun w' => Fr (fun k => k = B ∨ k = X) w3 w') (fun w' h => hfr.trans h) ?_
  clear hfr
  refine wpAnyH_take (i := 14) (oi := ⟨some 31, _, _, _, _, _⟩) (v := ?vs14) rfl (by kernel_rfl) (by kernel_rfl) (by kernel_rfl) (fun _ _ _ h => h) (Or.inl ⟨by rfl, ?ys14⟩) (Fr.refl _ _) ?rs14
  case ys14 =>
    intro wq hSw
    (try dsimp only at hSw)
    first | (go_simp; done) | (go_simp; with_reducible rfl)
  try simp only [Act.put, List.setIfInBounds_toArray, List.set_cons_zero, List.set_cons_succ]
  refine wpAnyH_take (i := 15) (oi := ⟨some 6, _, _, _, _, _⟩) (v := ?vs15) rfl (by kernel_rfl) (by kernel_rfl) (by kernel_rfl) (fun _ _ _ h => h) (Or.inl ⟨by rfl, ?ys15⟩) (Fr.refl _ _) ?rs15
  case ys15 =>
    intro wq hSw
    (try dsimp only at hSw)
    first | (go_simp; done) | (go_simp; with_reducible rfl)
  try simp only [Act.put, List.setIfInBounds_toArray, List.set_cons_zero, List.set_cons_succ]
  refine wpAnyH_done (by kernel_rfl) ?_ _
  go_wp2_with fail
  go_ret
  exact ⟨by first | rfl | simp, _, _, HP3.out, (Fr.of_below Hbl.out).trans ((Fr.drew (Fr.refl _ _)).trans (HF1.out.trans HF2.out))⟩
set_option maxRecDepth 20000 in
set_option maxHeartbeats 1600000 in
theorem act_set1 (s0 M B X n : Nat) (f : Nat → Bool) (A : Option Addr) (at_ many : Int) (w : World) (h : Py12 s0 w M B X n f A) :
    Calls Tryd.prog 11 #[.pointer (some ⟨M, 0, none⟩), .pointer (some ⟨X, 0, none⟩), .agg #[.int .i64 1, .int .i64 at_, .int .i64 many]] w (RetAct s0 M B X n w) := by
  obtain ⟨wl, hwl⟩ : ∃ x, x = w.alloc (.cells #[.int .i64 1, .int .i64 at_, .int .i64 many] 29) := ⟨_, rfl⟩
  have hbl : Below w.heap.size w wl := by rw [hwl]; exact (Below.refl _ _).alloc (Nat.le_refl _) _
  have hbx : ActB wl w.heap.size 1 at_ many := by rw [hwl]; exact heap_alloc_new w _
  have HP := Lib.hid (h.later hbl)
  have Hbl := Lib.hid hbl
  have C0 := Lib.hid (show wl.cell? ⟨w.heap.size, 0, none⟩ = some (.int .i64 1) by rw [cell_of_row _ _ _ _ _ _ hbx]; rfl)
  have C1 := Lib.hid (show wl.cell? ⟨w.heap.size, 1, none⟩ = some (.int .i64 at_) by rw [cell_of_row _ _ _ _ _ _ hbx]; rfl)
  have N5 := Lib.hid (show ¬ (w.heap.size = B ∨ w.heap.size = X) by have := h.p.ltB; have := h.x.lt; omega)
  obtain ⟨y, hy⟩ : ∃ y, y = setB n f at_ true := ⟨_, rfl⟩
  have Hy := Lib.hid hy
  clear hbl hbx h hy
  go_enter Tryd.func11, Tryd.ntmps11
  go_wp2_with fail
  rw [← hwl]
  clear hwl
  refine wp_region_held_drew (S := fun w' => Fr (fun k => k = B ∨ k = X) wl.drew w') (by kernel_rfl) (Fr.refl _ _) (fun hHeld => ?_)
  clear hHeld
  refine wpAnyH_take (i := 0) (oi := ⟨some 17, _, _, _, _, _⟩) (v := ?vs0) rfl (by kernel_rfl) (by kernel_rfl) (by kernel_rfl) (fun _ _ _ h => h) (Or.inl ⟨by rfl, ?ys0⟩) (Fr.refl _ _) ?rs0
  case ys0 =>
    intro wq hSw
    (try dsimp only at hSw)
    first | (go_simp; done) | (go_simp; with_reducible rfl)
  try simp only [Act.put, List.setIfInBounds_toArray, List.set_cons_zero, List.set_cons_succ]
  refine wpAnyH_take (i := 1) (oi := ⟨some 18, _, _, _, _, _⟩) (v := ?vs1) rfl (by kernel_rfl) (by kernel_rfl) (by kernel_rfl) (fun _ _ _ h => h) (Or.inl ⟨by rfl, ?ys1⟩) (Fr.refl _ _) ?rs1
  case ys1 =>
    intro wq hSw
    (try dsimp only at hSw)
    first | (go_simp; done) | (go_simp; with_reducible rfl)
  try simp only [Act.put, List.setIfInBounds_toArray, List.set_cons_zero, List.set_cons_succ]
  refine wpAnyH_take (i := 2) (oi := ⟨some 19, _, _, _, _, _⟩) (v := ?vs2) rfl (by kernel_rfl) (by kernel_rfl) (by kernel_rfl) (fun _ _ _ h => h) (Or.inl ⟨by rfl, ?ys2⟩) (Fr.refl _ _) ?rs2
  case ys2 =>
    intro wq hSw
    (try dsimp only at hSw)
    have hq := hSw.cell_some C1.out N5.out
    first | (go_simp; done) | (go_simp; with_reducible rfl)
  try simp only [Act.put, List.setIfInBounds_toArray, List.set_cons_zero, List.set_cons_succ]
  refine wpAnyH_take (i := 3) (oi := ⟨some 20, _, _, _, _, _⟩) (v := ?vs3) rfl (by kernel_rfl) (by kernel_rfl) (by kernel_rfl) (fun _ _ _ h => h) (Or.inl ⟨by rfl, ?ys3⟩) (Fr.refl _ _) ?rs3
  case ys3 =>
    intro wq hSw
    (try dsimp only at hSw)
    first | (go_simp; done) | (go_simp; with_reducible rfl)
  try simp only [Act.put, List.setIfInBounds_toArray, List.set_cons_zero, List.set_cons_succ]
  refine wpAnyH_take (i := 4) (oi := ⟨some 21, _, _, _, _, _⟩) (v := ?vs4) rfl (by kernel_rfl) (by kernel_rfl) (by kernel_rfl) (fun _ _ _ h => h) (Or.inl ⟨by rfl, ?ys4⟩) (Fr.refl _ _) ?rs4
  case ys4 =>
    intro wq hSw
    (try dsimp only at hSw)
    have hq := hSw.cell_some C0.out N5.out
    first | (go_simp; done) | (go_simp; with_reducible rfl)
  try simp only [Act.put, List.setIfInBounds_toArray, List.set_cons_zero, List.set_cons_succ]
  refine wpAnyH_take (i := 5) (oi := ⟨some 22, _, _, _, _, _⟩) (v := ?vs5) rfl (by kernel_rfl) (by kernel_rfl) (by kernel_rfl) (fun _ _ _ h => h) (Or.inl ⟨by rfl, ?ys5⟩) (Fr.refl _ _) ?rs5
  case ys5 =>
    intro wq hSw
    (try dsimp only at hSw)
    first | (go_simp; done) | (go_simp; with_reducible rfl)
  try simp only [Act.put, List.setIfInBounds_toArray, List.set_cons_zero, List.set_cons_succ]
  refine wpAnyH_take (i := 7) (oi := ⟨some 24, _, _, _, _, _⟩) (v := ?vs7) rfl (by kernel_rfl) (by kernel_rfl) (by kernel_rfl) (fun _ _ _ h => h) (Or.inl ⟨by rfl, ?ys7⟩) (Fr.refl _ _) ?rs7
  case ys7 =>
    intro wq hSw
    (try dsimp only at hSw)
    first | (go_simp; done) | (go_simp; with_reducible rfl)
  try simp only [Act.put, List.setIfInBounds_toArray, List.set_cons_zero, List.set_cons_succ]
  refine wpAnyH_take (i := 8) (oi := ⟨some 25, _, _, _, _, _⟩) (v := ?vs8) rfl (by kernel_rfl) (by kernel_rfl) (by kernel_rfl) (fun _ _ _ h => h) (Or.inl ⟨by rfl, ?ys8⟩) (Fr.refl _ _) ?rs8
  case ys8 =>
    intro wq hSw
    (try dsimp only at hSw)
    first | (go_simp; done) | (go_simp; with_reducible rfl)
  try simp only [Act.put, List.setIfInBounds_toArray, List.set_cons_zero, List.set_cons_succ]
  refine wpAnyH_take (i := 9) (oi := ⟨some 26, _, _, _, _, _⟩) (v := ?vs9) rfl (by kernel_rfl) (by kernel_rfl) (by kernel_rfl) (fun _ _ _ h => h) (Or.inl ⟨by rfl, ?ys9⟩) (Fr.refl _ _) ?rs9
  case ys9 =>
    intro wq hSw
    (try dsimp only at hSw)
    have hq := hSw.cell_some C1.out N5.out
    first | (go_simp; done) | (go_simp; with_reducible rfl)
  try simp only [Act.put, List.setIfInBounds_toArray, List.set_cons_zero, List.set_cons_succ]
  refine wpAnyH_take (i := 10) (oi := ⟨some 27, _, _, _, _, _⟩) (v := ?vs10) rfl (by kernel_rfl) (by kernel_rfl) (by kernel_rfl) (fun _ _ _ h => h) (Or.inl ⟨by rfl, ?ys10⟩) (Fr.refl _ _) ?rs10
  case ys10 =>
    intro wq hSw
    (try dsimp only at hSw)
    first | (go_simp; done) | (go_simp; with_reducible rfl)
  try simp only [Act.put, List.setIfInBounds_toArray, List.set_cons_zero, List.set_cons_succ]
  refine wpAnyH_take (i := 11) (oi := ⟨some 28, _, _, _, _, _⟩) (v := ?vs11) rfl (by kernel_rfl) (by kernel_rfl) (by kernel_rfl) (fun _ _ _ h => h) (Or.inl ⟨by rfl, ?ys11⟩) (Fr.refl _ _) ?rs11
  case ys11 =>
    intro wq hSw
    (try dsimp only at hSw)
    have hq := hSw.cell_some C0.out N5.out
    first | (go_simp; done) | (go_simp; with_reducible rfl)
  try simp only [Act.put, List.setIfInBounds_toArray, List.set_cons_zero, List.set_cons_succ]
  refine wpAnyH_take (i := 12) (oi := ⟨some 29, _, _, _, _, _⟩) (v := ?vs12) rfl (by kernel_rfl) (by kernel_rfl) (by kernel_rfl) (fun _ _ _ h => h) (Or.inl ⟨by rfl, ?ys12⟩) (Fr.refl _ _) ?rs12
  case ys12 =>
    intro wq hSw
    (try dsimp only at hSw)
    first | (go_simp; done) | (go_simp; with_reducible rfl)
  try simp only [Act.put, List.setIfInBounds_toArray, List.set_cons_zero, List.set_cons_succ]
  refine wpAnyH_ready (rs := [6]) (by kernel_rfl) (by simp) ?_
  refine AllReadyH.cons (o := ⟨some 23, _, _, _, _, _⟩) rfl (fun K hK => ?_) AllReadyH.nil
  go_simp
  refine (set_any M B n at_ f true wl.drew (HP.out.p.later (Below.drew (Below.refl _ _)))).mono ?_; rintro e w2 ⟨rfl, hp2, hf2⟩
  have hx2 := (HP.out.later (Below.drew (Below.refl _ _))).half hf2
  have hfr : Fr (fun k => k = B ∨ k = X) wl.drew w2 := hf2.mono (fun b hb => .inl hb)
  have HF1 := Lib.hid hfr
  have HP2 := Lib.hid hp2
  have HX2 := Lib.hid hx2
  have HS2 := Lib.hid (show wl.heap.size ≤ w2.heap.size from hf2.size)
  have C0 := Lib.hid (hfr.cell_some C0.out N5.out)
  have C1 := Lib.hid (hfr.cell_some C1.out N5.out)
  rw [← Hy.out]
  clear hp2 hf2 hx2
  go_wp2_with fail
  refine hK.out _ _ hfr (fun hHeld => ?_)
  clear hK K hHeld
  try simp only [Act.put, List.setIfInBounds_toArray, List.set_cons_zero, List.set_cons_succ]
  refine wpAnyH_re (S' := fun w' => Fr (fun k => k = B ∨ k = X) w2 w') (fun w' h => hfr.trans h) ?_
  clear hfr
  refine wpAnyH_ready (rs := [13]) (by kernel_rfl) (by simp) ?_
  refine AllReadyH.cons (o := ⟨some 30, _, _, _, _, _⟩) rfl (fun K hK => ?_) AllReadyH.nil
  go_simp
  refine (rmpset_any X n f A at_ true w2 HX2.out).mono ?_; rintro e w3 ⟨rfl, A', hx3, hf3, ha3⟩
  have hfr : Fr (fun k => k = B ∨ k = X) w2 w3 := hf3.mono (fun b hb => .inr hb)
  have HF2 := Lib.hid hfr
  have HP3 := Lib.hid (HP.out.both HP2.out HS2.out hx3 hf3 ha3)
  rw [← Hy.out]
  clear hx3 hf3 ha3
  go_wp2_with fail
  refine hK.out _ _ hfr (fun hHeld => ?_)
  clear hK K hHeld
  try simp only [Act.put, List.setIfInBounds_toArray, List.set_cons_zero, List.set_cons_succ]
  refine wpAnyH_re (S' := fun w' => Fr (fun k => k = B ∨ k = X) w3 w') (fun w' h => hfr.trans h) ?_
  clear hfr
  refine wpAnyH_take (i := 14) (oi := ⟨some 31, _, _, _, _, _⟩) (v := ?vs14) rfl (by kernel_rfl) (by kernel_rfl) (by kernel_rfl) (fun _ _ _ h => h) (Or.inl ⟨by rfl, ?ys14⟩) (Fr.refl _ _) ?rs14
  case ys14 =>
    intro wq hSw
    (try dsimp only at hSw)
    first | (go_simp; done) | (go_simp; with_reducible rfl)
  try simp only [Act.put, List.setIfInBounds_toArray, List.set_cons_zero, List.set_cons_succ]
  refine wpAnyH_take (i := 15) (oi := ⟨some 6, _, _, _, _, _⟩) (v := ?vs15) rfl (by kernel_rfl) (by kernel_rfl) (by kernel_rfl) (fun _ _ _ h => h) (Or.inl ⟨by rfl, ?ys15⟩) (Fr.refl _ _) ?rs15
  case ys15 =>
    intro wq hSw
    (try dsimp only at hSw)
    first | (go_simp; done) | (go_simp; with_reducible rfl)
  try simp only [Act.put, List.setIfInBounds_toArray, List.set_cons_zero, List.set_cons_succ]
  refine wpAnyH_done (by kernel_rfl) ?_ _
  go_wp2_with fail
  go_ret
  exact ⟨by first | rfl | simp, _, _, HP3.out, (Fr.of_below Hbl.out).trans ((Fr.drew (Fr.refl _ _)).trans (HF1.out.trans HF2.out))⟩
set_option maxRecDepth 20000 in
set_option maxHeartbeats 1600000 in
theorem act_set2 (s0 M B X n : Nat) (f : Nat → Bool) (A : Option Addr) (at_ many : Int) (w : World) (h : Py12 s0 w M B X n f A) :
    Calls Tryd.prog 11 #[.pointer (some ⟨M, 0, none⟩), .pointer (some ⟨X, 0, none⟩), .agg #[.int .i64 2, .int .i64 at_, .int .i64 many]] w (RetAct s0 M B X n w) := by
  obtain ⟨wl, hwl⟩ : ∃ x, x = w.alloc (.cells #[.int .i64 2, .int .i64 at_, .int .i64 many] 29) := ⟨_, rfl⟩
  have hbl : Below w.heap.size w wl := by rw [hwl]; exact (Below.refl _ _).alloc (Nat.le_refl _) _
  have hbx : ActB wl w.heap.size 2 at_ many := by rw [hwl]; exact heap_alloc_new w _
  have HP := Lib.hid (h.later hbl)
  have Hbl := Lib.hid hbl
  have C0 := Lib.hid (show wl.cell? ⟨w.heap.size, 0, none⟩ = some (.int .i64 2) by rw [cell_of_row _ _ _ _ _ _ hbx]; rfl)
  have C1 := Lib.hid (show wl.cell? ⟨w.heap.size, 1, none⟩ = some (.int .i64 at_) by rw [cell_of_row _ _ _ _ _ _ hbx]; rfl)
  have N5 := Lib.hid (show ¬ (w.heap.size = B ∨ w.heap.size = X) by have := h.p.ltB; have := h.x.lt; omega)
  obtain ⟨y, hy⟩ : ∃ y, y = setB n f at_ true := ⟨_, rfl⟩
  have Hy := Lib.hid hy
  clear hbl hbx h hy
  go_enter Tryd.func11, Tryd.ntmps11
  go_wp2_with fail
  rw [← hwl]
  clear hwl
  refine wp_region_held_drew (S := fun w' => Fr (fun k => k = B ∨ k = X) wl.drew w') (by kernel_rfl) (Fr.refl _ _) (fun hHeld => ?_)
  clear hHeld
  refine wpAnyH_take (i := 0) (oi := ⟨some 17, _, _, _, _, _⟩) (v := ?vs0) rfl (by kernel_rfl) (by kernel_rfl) (by kernel_rfl) (fun _ _ _ h => h) (Or.inl ⟨by rfl, ?ys0⟩) (Fr.refl _ _) ?rs0
  case ys0 =>
    intro wq hSw
    (try dsimp only at hSw)
    first | (go_simp; done) | (go_simp; with_reducible rfl)
  try simp only [Act.put, List.setIfInBounds_toArray, List.set_cons_zero, List.set_cons_succ]
  refine wpAnyH_take (i := 1) (oi := ⟨some 18, _, _, _, _, _⟩) (v := ?vs1) rfl (by kernel_rfl) (by kernel_rfl) (by kernel_rfl) (fun _ _ _ h => h) (Or.inl ⟨by rfl, ?ys1⟩) (Fr.refl _ _) ?rs1
  case ys1 =>
    intro wq hSw
    (try dsimp only at hSw)
    first | (go_simp; done) | (go_simp; with_reducible rfl)
  try simp only [Act.put, List.setIfInBounds_toArray, List.set_cons_zero, List.set_cons_succ]
  refine wpAnyH_take (i := 2) (oi := ⟨some 19, _, _, _, _, _⟩) (v := ?vs2) rfl (by kernel_rfl) (by kernel_rfl) (by kernel_rfl) (fun _ _ _ h => h) (Or.inl ⟨by rfl, ?ys2⟩) (Fr.refl _ _) ?rs2
  case ys2 =>
    intro wq hSw
    (try dsimp only at hSw)
    have hq := hSw.cell_some C1.out N5.out
    first | (go_simp; done) | (go_simp; with_reducible rfl)
  try simp only [Act.put, List.setIfInBounds_toArray, List.set_cons_zero, List.set_cons_succ]
  refine wpAnyH_take (i := 3) (oi := ⟨some 20, _, _, _, _, _⟩) (v := ?vs3) rfl (by kernel_rfl) (by kernel_rfl) (by kernel_rfl) (fun _ _ _ h => h) (Or.inl ⟨by rfl, ?ys3⟩) (Fr.refl _ _) ?rs3
  case ys3 =>
    intro wq hSw
    (try dsimp only at hSw)
    first | (go_simp; done) | (go_simp; with_reducible rfl)
  try simp only [Act.put, List.setIfInBounds_toArray, List.set_cons_zero, List.set_cons_succ]
  refine wpAnyH_take (i := 4) (oi := ⟨some 21, _, _, _, _, _⟩) (v := ?vs4) rfl (by kernel_rfl) (by kernel_rfl) (by kernel_rfl) (fun _ _ _ h => h) (Or.inl ⟨by rfl, ?ys4⟩) (Fr.refl _ _) ?rs4
  case ys4 =>
    intro wq hSw
    (try dsimp only at hSw)
    have hq := hSw.cell_some C0.out N5.out
    first | (go_simp; done) | (go_simp; with_reducible rfl)
  try simp only [Act.put, List.setIfInBounds_toArray, List.set_cons_zero, List.set_cons_succ]
  refine wpAnyH_take (i := 5) (oi := ⟨some 22, _, _, _, _, _⟩) (v := ?vs5) rfl (by kernel_rfl) (by kernel_rfl) (by kernel_rfl) (fun _ _ _ h => h) (Or.inl ⟨by rfl, ?ys5⟩) (Fr.refl _ _) ?rs5
  case ys5 =>
    intro wq hSw
    (try dsimp only at hSw)
    first | (go_simp; done) | (go_simp; with_reducible rfl)
  try simp only [Act.put, List.setIfInBounds_toArray, List.set_cons_zero, List.set_cons_succ]
  refine wpAnyH_take (i := 7) (oi := ⟨some 24, _, _, _, _, _⟩) (v := ?vs7) rfl (by kernel_rfl) (by kernel_rfl) (by kernel_rfl) (fun _ _ _ h => h) (Or.inl ⟨by rfl, ?ys7⟩) (Fr.refl _ _) ?rs7
  case ys7 =>
    intro wq hSw
    (try dsimp only at hSw)
    first | (go_simp; done) | (go_simp; with_reducible rfl)
  try simp only [Act.put, List.setIfInBounds_toArray, List.set_cons_zero, List.set_cons_succ]
  refine wpAnyH_take (i := 8) (oi := ⟨some 25, _, _, _, _, _⟩) (v := ?vs8) rfl (by kernel_rfl) (by kernel_rfl) (by kernel_rfl) (fun _ _ _ h => h) (Or.inl ⟨by rfl, ?ys8⟩) (Fr.refl _ _) ?rs8
  case ys8 =>
    intro wq hSw
    (try dsimp only at hSw)
    first | (go_simp; done) | (go_simp; with_reducible rfl)
  try simp only [Act.put, List.setIfInBounds_toArray, List.set_cons_zero, List.set_cons_succ]
  refine wpAnyH_take (i := 9) (oi := ⟨some 26, _, _, _, _, _⟩) (v := ?vs9) rfl (by kernel_rfl) (by kernel_rfl) (by kernel_rfl) (fun _ _ _ h => h) (Or.inl ⟨by rfl, ?ys9⟩) (Fr.refl _ _) ?rs9
  case ys9 =>
    intro wq hSw
    (try dsimp only at hSw)
    have hq := hSw.cell_some C1.out N5.out
    first | (go_simp; done) | (go_simp; with_reducible rfl)
  try simp only [Act.put, List.setIfInBounds_toArray, List.set_cons_zero, List.set_cons_succ]
  refine wpAnyH_take (i := 10) (oi := ⟨some 27, _, _, _, _, _⟩) (v := ?vs10) rfl (by kernel_rfl) (by kernel_rfl) (by kernel_rfl) (fun _ _ _ h => h) (Or.inl ⟨by rfl, ?ys10⟩) (Fr.refl _ _) ?rs10
  case ys10 =>
    intro wq hSw
    (try dsimp only at hSw)
    first | (go_simp; done) | (go_simp; with_reducible rfl)
  try simp only [Act.put, List.setIfInBounds_toArray, List.set_cons_zero, List.set_cons_succ]
  refine wpAnyH_take (i := 11) (oi := ⟨some 28, _, _, _, _, _⟩) (v := ?vs11) rfl (by kernel_rfl) (by kernel_rfl) (by kernel_rfl) (fun _ _ _ h => h) (Or.inl ⟨by rfl, ?ys11⟩) (Fr.refl _ _) ?rs11
  case ys11 =>
    intro wq hSw
    (try dsimp only at hSw)
    have hq := hSw.cell_some C0.out N5.out
    first | (go_simp; done) | (go_simp; with_reducible rfl)
  try simp only [Act.put, List.setIfInBounds_toArray, List.set_cons_zero, List.set_cons_succ]
  refine wpAnyH_take (i := 12) (oi := ⟨some 29, _, _, _, _, _⟩) (v := ?vs12) rfl (by kernel_rfl) (by kernel_rfl) (by kernel_rfl) (fun _ _ _ h => h) (Or.inl ⟨by rfl, ?ys12⟩) (Fr.refl _ _) ?rs12
  case ys12 =>
    intro wq hSw
    (try dsimp only at hSw)
    first | (go_simp; done) | (go_simp; with_reducible rfl)
  try simp only [Act.put, List.setIfInBounds_toArray, List.set_cons_zero, List.set_cons_succ]
  refine wpAnyH_ready (rs := [6]) (by kernel_rfl) (by simp) ?_
  refine AllReadyH.cons (o := ⟨some 23, _, _, _, _, _⟩) rfl (fun K hK => ?_) AllReadyH.nil
  go_simp
  refine (set_any M B n at_ f true wl.drew (HP.out.p.later (Below.drew (Below.refl _ _)))).mono ?_; rintro e w2 ⟨rfl, hp2, hf2⟩
  have hx2 := (HP.out.later (Below.drew (Below.refl _ _))).half hf2
  have hfr : Fr (fun k => k = B ∨ k = X) wl.drew w2 := hf2.mono (fun b hb => .inl hb)
  have HF1 := Lib.hid hfr
  have HP2 := Lib.hid hp2
  have HX2 := Lib.hid hx2
  have HS2 := Lib.hid (show wl.heap.size ≤ w2.heap.size from hf2.size)
  have C0 := Lib.hid (hfr.cell_some C0.out N5.out)
  have C1 := Lib.hid (hfr.cell_some C1.out N5.out)
  rw [← Hy.out]
  clear hp2 hf2 hx2
  go_wp2_with fail
  refine hK.out _ _ hfr (fun hHeld => ?_)
  clear hK K hHeld
  try simp only [Act.put, List.setIfInBounds_toArray, List.set_cons_zero, List.set_cons_succ]
  refine wpAnyH_re (S' := fun w' => Fr (fun k => k = B ∨ k = X) w2 w') (fun w' h => hfr.trans h) ?_
  clear hfr
  refine wpAnyH_ready (rs := [13]) (by kernel_rfl) (by simp) ?_
  refine AllReadyH.cons (o := ⟨some 30, _, _, _, _, _⟩) rfl (fun K hK => ?_) AllReadyH.nil
  go_simp
  refine (rmpset_any X n f A at_ true w2 HX2.out).mono ?_; rintro e w3 ⟨rfl, A', hx3, hf3, ha3⟩
  have hfr : Fr (fun k => k = B ∨ k = X) w2 w3 := hf3.mono (fun b hb => .inr hb)
  have HF2 := Lib.hid hfr
  have HP3 := Lib.hid (HP.out.both HP2.out HS2.out hx3 hf3 ha3)
  rw [← Hy.out]
  clear hx3 hf3 ha3
  go_wp2_with fail
  refine hK.out _ _ hfr (fun hHeld => ?_)
  clear hK K hHeld
  try simp only [Act.put, List.setIfInBounds_toArray, List.set_cons_zero, List.set_cons_succ]
  refine wpAnyH_re (S' := fun w' => Fr (fun k => k = B ∨ k = X) w3 w') (fun w' h => hfr.trans h) ?_
  clear hfr
  refine wpAnyH_take (i := 14) (oi := ⟨some 31, _, _, _, _, _⟩) (v := ?vs14) rfl (by kernel_rfl) (by kernel_rfl) (by kernel_rfl) (fun _ _ _ h => h) (Or.inl ⟨by rfl, ?ys14⟩) (Fr.refl _ _) ?rs14
  case ys14 =>
    intro wq hSw
    (try dsimp only at hSw)
    first | (go_simp; done) | (go_simp; with_reducible rfl)
  try simp only [Act.put, List.setIfInBounds_toArray, List.set_cons_zero, List.set_cons_succ]
  refine wpAnyH_take (i := 15) (oi := ⟨some 6, _, _, _, _, _⟩) (v := ?vs15) rfl (by kernel_rfl) (by kernel_rfl) (by kernel_rfl) (fun _ _ _ h => h) (Or.inl ⟨by rfl, ?ys15⟩) (Fr.refl _ _) ?rs15
  case ys15 =>
    intro wq hSw
    (try dsimp only at hSw)
    first | (go_simp; done) | (go_simp; with_reducible rfl)
  try simp only [Act.put, List.setIfInBounds_toArray, List.set_cons_zero, List.set_cons_succ]
  refine wpAnyH_done (by kernel_rfl) ?_ _
  go_wp2_with fail
  go_ret
  exact ⟨by first | rfl | simp, _, _, HP3.out, (Fr.of_below Hbl.out).trans ((Fr.drew (Fr.refl _ _)).trans (HF1.out.trans HF2.out))⟩
set_option maxRecDepth 20000 in
set_option maxHeartbeats 1600000 in
theorem act_set3 (s0 M B X n : Nat) (f : Nat → Bool) (A : Option Addr) (at_ many : Int) (w : World) (h : Py12 s0 w M B X n f A) :
    Calls Tryd.prog 11 #[.pointer (some ⟨M, 0, none⟩), .pointer (some ⟨X, 0, none⟩), .agg #[.int .i64 3, .int .i64 at_, .int .i64 many]] w (RetAct s0 M B X n w) := by
  obtain ⟨wl, hwl⟩ : ∃ x, x = w.alloc (.cells #[.int .i64 3, .int .i64 at_, .int .i64 many] 29) := ⟨_, rfl⟩
  have hbl : Below w.heap.size w wl := by rw [hwl]; exact (Below.refl _ _).alloc (Nat.le_refl _) _
  have hbx : ActB wl w.heap.size 3 at_ many := by rw [hwl]; exact heap_alloc_new w _
  have HP := Lib.hid (h.later hbl)
  have Hbl := Lib.hid hbl
  have C0 := Lib.hid (show wl.cell? ⟨w.heap.size, 0, none⟩ = some (.int .i64 3) by rw [cell_of_row _ _ _ _ _ _ hbx]; rfl)
  have C1 := Lib.hid (show wl.cell? ⟨w.heap.size, 1, none⟩ = some (.int .i64 at_) by rw [cell_of_row _ _ _ _ _ _ hbx]; rfl)
  have N5 := Lib.hid (show ¬ (w.heap.size = B ∨ w.heap.size = X) by have := h.p.ltB; have := h.x.lt; omega)
  obtain ⟨y, hy⟩ : ∃ y, y = setB n f at_ false := ⟨_, rfl⟩
  have Hy := Lib.hid hy
  clear hbl hbx h hy
  go_enter Tryd.func11, Tryd.ntmps11
  go_wp2_with fail
  rw [← hwl]
  clear hwl
  refine wp_region_held_drew (S := fun w' => Fr (fun k => k = B ∨ k = X) wl.drew w') (by kernel_rfl) (Fr.refl _ _) (fun hHeld => ?_)
  clear hHeld
  refine wpAnyH_take (i := 0) (oi := ⟨some 17, _, _, _, _, _⟩) (v := ?vs0) rfl (by kernel_rfl) (by kernel_rfl) (by kernel_rfl) (fun _ _ _ h => h) (Or.inl ⟨by rfl, ?ys0⟩) (Fr.refl _ _) ?rs0
  case ys0 =>
    intro wq hSw
    (try dsimp only at hSw)
    first | (go_simp; done) | (go_simp; with_reducible rfl)
  try simp only [Act.put, List.setIfInBounds_toArray, List.set_cons_zero, List.set_cons_succ]
  refine wpAnyH_take (i := 1) (oi := ⟨some 18, _, _, _, _, _⟩) (v := ?vs1) rfl (by kernel_rfl) (by kernel_rfl) (by kernel_rfl) (fun _ _ _ h => h) (Or.inl ⟨by rfl, ?ys1⟩) (Fr.refl _ _) ?rs1
  case ys1 =>
    intro wq hSw
    (try dsimp only at hSw)
    first | (go_simp; done) | (go_simp; with_reducible rfl)
  try simp only [Act.put, List.setIfInBounds_toArray, List.set_cons_zero, List.set_cons_succ]
  refine wpAnyH_take (i := 2) (oi := ⟨some 19, _, _, _, _, _⟩) (v := ?vs2) rfl (by kernel_rfl) (by kernel_rfl) (by kernel_rfl) (fun _ _ _ h => h) (Or.inl ⟨by rfl, ?ys2⟩) (Fr.refl _ _) ?rs2
  case ys2 =>
    intro wq hSw
    (try dsimp only at hSw)
    have hq := hSw.cell_some C1.out N5.out
    first | (go_simp; done) | (go_simp; with_reducible rfl)
  try simp only [Act.put, List.setIfInBounds_toArray, List.set_cons_zero, List.set_cons_succ]
  refine wpAnyH_take (i := 3) (oi := ⟨some 20, _, _, _, _, _⟩) (v := ?vs3) rfl (by kernel_rfl) (by kernel_rfl) (by kernel_rfl) (fun _ _ _ h => h) (Or.inl ⟨by rfl, ?ys3⟩) (Fr.refl _ _) ?rs3
  case ys3 =>
    intro wq hSw
    (try dsimp only at hSw)
    first | (go_simp; done) | (go_simp; with_reducible rfl)
  try simp only [Act.put, List.setIfInBounds_toArray, List.set_cons_zero, List.set_cons_succ]
  refine wpAnyH_take (i := 4) (oi := ⟨some 21, _, _, _, _, _⟩) (v := ?vs4) rfl (by kernel_rfl) (by kernel_rfl) (by kernel_rfl) (fun _ _ _ h => h) (Or.inl ⟨by rfl, ?ys4⟩) (Fr.refl _ _) ?rs4
  case ys4 =>
    intro wq hSw
    (try dsimp only at hSw)
    have hq := hSw.cell_some C0.out N5.out
    first | (go_simp; done) | (go_simp; with_reducible rfl)
  try simp only [Act.put, List.setIfInBounds_toArray, List.set_cons_zero, List.set_cons_succ]
  refine wpAnyH_take (i := 5) (oi := ⟨some 22, _, _, _, _, _⟩) (v := ?vs5) rfl (by kernel_rfl) (by kernel_rfl) (by kernel_rfl) (fun _ _ _ h => h) (Or.inl ⟨by rfl, ?ys5⟩) (Fr.refl _ _) ?rs5
  case ys5 =>
    intro wq hSw
    (try dsimp only at hSw)
    first | (go_simp; done) | (go_simp; with_reducible rfl)
  try simp only [Act.put, List.setIfInBounds_toArray, List.set_cons_zero, List.set_cons_succ]
  refine wpAnyH_take (i := 7) (oi := ⟨some 24, _, _, _, _, _⟩) (v := ?vs7) rfl (by kernel_rfl) (by kernel_rfl) (by kernel_rfl) (fun _ _ _ h => h) (Or.inl ⟨by rfl, ?ys7⟩) (Fr.refl _ _) ?rs7
  case ys7 =>
    intro wq hSw
    (try dsimp only at hSw)
    first | (go_simp; done) | (go_simp; with_reducible rfl)
  try simp only [Act.put, List.setIfInBounds_toArray, List.set_cons_zero, List.set_cons_succ]
  refine wpAnyH_take (i := 8) (oi := ⟨some 25, _, _, _, _, _⟩) (v := ?vs8) rfl (by kernel_rfl) (by kernel_rfl) (by kernel_rfl) (fun _ _ _ h => h) (Or.inl ⟨by rfl, ?ys8⟩) (Fr.refl _ _) ?rs8
  case ys8 =>
    intro wq hSw
    (try dsimp only at hSw)
    first | (go_simp; done) | (go_simp; with_reducible rfl)
  try simp only [Act.put, List.setIfInBounds_toArray, List.set_cons_zero, List.set_cons_succ]
  refine wpAnyH_take (i := 9) (oi := ⟨some 26, _, _, _, _, _⟩) (v := ?vs9) rfl (by kernel_rfl) (by kernel_rfl) (by kernel_rfl) (fun _ _ _ h => h) (Or.inl ⟨by rfl, ?ys9⟩) (Fr.refl _ _) ?rs9
  case ys9 =>
    intro wq hSw
    (try dsimp only at hSw)
    have hq := hSw.cell_some C1.out N5.out
    first | (go_simp; done) | (go_simp; with_reducible rfl)
  try simp only [Act.put, List.setIfInBounds_toArray, List.set_cons_zero, List.set_cons_succ]
  refine wpAnyH_take (i := 10) (oi := ⟨some 27, _, _, _, _, _⟩) (v := ?vs10) rfl (by kernel_rfl) (by kernel_rfl) (by kernel_rfl) (fun _ _ _ h => h) (Or.inl ⟨by rfl, ?ys10⟩) (Fr.refl _ _) ?rs10
  case ys10 =>
    intro wq hSw
    (try dsimp only at hSw)
    first | (go_simp; done) | (go_simp; with_reducible rfl)
  try simp only [Act.put, List.setIfInBounds_toArray, List.set_cons_zero, List.set_cons_succ]
  refine wpAnyH_take (i := 11) (oi := ⟨some 28, _, _, _, _, _⟩) (v := ?vs11) rfl (by kernel_rfl) (by kernel_rfl) (by kernel_rfl) (fun _ _ _ h => h) (Or.inl ⟨by rfl, ?ys11⟩) (Fr.refl _ _) ?rs11
  case ys11 =>
    intro wq hSw
    (try dsimp only at hSw)
    have hq := hSw.cell_some C0.out N5.out
    first | (go_simp; done) | (go_simp; with_reducible rfl)
  try simp only [Act.put, List.setIfInBounds_toArray, List.set_cons_zero, List.set_cons_succ]
  refine wpAnyH_take (i := 12) (oi := ⟨some 29, _, _, _, _, _⟩) (v := ?vs12) rfl (by kernel_rfl) (by kernel_rfl) (by kernel_rfl) (fun _ _ _ h => h) (Or.inl ⟨by rfl, ?ys12⟩) (Fr.refl _ _) ?rs12
  case ys12 =>
    intro wq hSw
    (try dsimp only at hSw)
    first | (go_simp; done) | (go_simp; with_reducible rfl)
  try simp only [Act.put, List.setIfInBounds_toArray, List.set_cons_zero, List.set_cons_succ]
  refine wpAnyH_ready (rs := [6]) (by kernel_rfl) (by simp) ?_
  refine AllReadyH.cons (o := ⟨some 23, _, _, _, _, _⟩) rfl (fun K hK => ?_) AllReadyH.nil
  go_simp
  refine (set_any M B n at_ f false wl.drew (HP.out.p.later (Below.drew (Below.refl _ _)))).mono ?_; rintro e w2 ⟨rfl, hp2, hf2⟩
  have hx2 := (HP.out.later (Below.drew (Below.refl _ _))).half hf2
  have hfr : Fr (fun k => k = B ∨ k = X) wl.drew w2 := hf2.mono (fun b hb => .inl hb)
  have HF1 := Lib.hid hfr
  have HP2 := Lib.hid hp2
  have HX2 := Lib.hid hx2
  have HS2 := Lib.hid (show wl.heap.size ≤ w2.heap.size from hf2.size)
  have C0 := Lib.hid (hfr.cell_some C0.out N5.out)
  have C1 := Lib.hid (hfr.cell_some C1.out N5.out)
  rw [← Hy.out]
  clear hp2 hf2 hx2
  go_wp2_with fail
  refine hK.out _ _ hfr (fun hHeld => ?_)
  clear hK K hHeld
  try simp only [Act.put, List.setIfInBounds_toArray, List.set_cons_zero, List.set_cons_succ]
  refine wpAnyH_re (S' := fun w' => Fr (fun k => k = B ∨ k = X) w2 w') (fun w' h => hfr.trans h) ?_
  clear hfr
  refine wpAnyH_ready (rs := [13]) (by kernel_rfl) (by simp) ?_
  refine AllReadyH.cons (o := ⟨some 30, _, _, _, _, _⟩) rfl (fun K hK => ?_) AllReadyH.nil
  go_simp
  refine (rmpset_any X n f A at_ false w2 HX2.out).mono ?_; rintro e w3 ⟨rfl, A', hx3, hf3, ha3⟩
  have hfr : Fr (fun k => k = B ∨ k = X) w2 w3 := hf3.mono (fun b hb => .inr hb)
  have HF2 := Lib.hid hfr
  have HP3 := Lib.hid (HP.out.both HP2.out HS2.out hx3 hf3 ha3)
  rw [← Hy.out]
  clear hx3 hf3 ha3
  go_wp2_with fail
  refine hK.out _ _ hfr (fun hHeld => ?_)
  clear hK K hHeld
  try simp only [Act.put, List.setIfInBounds_toArray, List.set_cons_zero, List.set_cons_succ]
  refine wpAnyH_re (S' := fun w' => Fr (fun k => k = B ∨ k = X) w3 w') (fun w' h => hfr.trans h) ?_
  clear hfr
  refine wpAnyH_take (i := 14) (oi := ⟨some 31, _, _, _, _, _⟩) (v := ?vs14) rfl (by kernel_rfl) (by kernel_rfl) (by kernel_rfl) (fun _ _ _ h => h) (Or.inl ⟨by rfl, ?ys14⟩) (Fr.refl _ _) ?rs14
  case ys14 =>
    intro wq hSw
    (try dsimp only at hSw)
    first | (go_simp; done) | (go_simp; with_reducible rfl)
  try simp only [Act.put, List.setIfInBounds_toArray, List.set_cons_zero, List.set_cons_succ]
  refine wpAnyH_take (i := 15) (oi := ⟨some 6, _, _, _, _, _⟩) (v := ?vs15) rfl (by kernel_rfl) (by kernel_rfl) (by kernel_rfl) (fun _ _ _ h => h) (Or.inl ⟨by rfl, ?ys15⟩) (Fr.refl _ _) ?rs15
  case ys15 =>
    intro wq hSw
    (try dsimp only at hSw)
    first | (go_simp; done) | (go_simp; with_reducible rfl)
  try simp only [Act.put, List.setIfInBounds_toArray, List.set_cons_zero, List.set_cons_succ]
  refine wpAnyH_done (by kernel_rfl) ?_ _
  go_wp2_with fail
  go_ret
  exact ⟨by first | rfl | simp, _, _, HP3.out, (Fr.of_below Hbl.out).trans ((Fr.drew (Fr.refl _ _)).trans (HF1.out.trans HF2.out))⟩
theorem lt_any {n : Nat} {f : Nat → Bool} {y : Int} : Lt12 n (leastD n f y).length f (leastD n f y) := by
  by_cases h : y < 1 ∨ (n : Int) - (cntL n f : Int) < y
  · rw [leastD_no h]
    exact ⟨rfl, fun i hi => absurd hi (Nat.not_lt_zero _), fun i hi => absurd hi (Nat.not_lt_zero _), fun h => absurd h (by simp)⟩
  · obtain ⟨m, rfl⟩ : ∃ m : Nat, y = (m : Int) := ⟨y.toNat, by omega⟩
    have hh := leastD_yes (n := n) (f := f) (m := m) (by omega) (by omega)
    rw [hh.len]
    exact hh

set_option maxRecDepth 20000 in
set_option maxHeartbeats 1600000 in
theorem act_take (s0 M B X n : Nat) (f : Nat → Bool) (A : Option Addr) (at_ many : Int) (hm : many < 9223372036854775808) (w : World) (h : Py12 s0 w M B X n f A) (hN : Tz w) :
    Calls Tryd.prog 11 #[.pointer (some ⟨M, 0, none⟩), .pointer (some ⟨X, 0, none⟩), .agg #[.int .i64 5, .int .i64 at_, .int .i64 many]] w (RetAct s0 M B X n w) := by
  obtain ⟨wl, hwl⟩ : ∃ x, x = w.alloc (.cells #[.int .i64 5, .int .i64 at_, .int .i64 many] 29) := ⟨_, rfl⟩
  have hbl : Below w.heap.size w wl := by rw [hwl]; exact (Below.refl _ _).alloc (Nat.le_refl _) _
  have hbx : ActB wl w.heap.size 5 at_ many := by rw [hwl]; exact heap_alloc_new w _
  have HP := Lib.hid (h.later hbl)
  have HN := Lib.hid (hN.keep hbl)
  have Hbl := Lib.hid hbl
  have C2 := Lib.hid (show wl.cell? ⟨w.heap.size, 2, none⟩ = some (.int .i64 many) by rw [cell_of_row _ _ _ _ _ _ hbx]; rfl)
  have c0 : wl.cell? ⟨w.heap.size, 0, none⟩ = some (.int .i64 5) := by rw [cell_of_row _ _ _ _ _ _ hbx]; rfl
  obtain ⟨l, hl⟩ : ∃ l, l = leastD n f many := ⟨_, rfl⟩
  have Hl := Lib.hid hl
  obtain ⟨q, hq⟩ : ∃ q, q = l.length := ⟨_, rfl⟩
  have Hq := Lib.hid hq
  have HL := Lib.hid (show Lt12 n q f l by rw [hq, hl]; exact lt_any)
  have hql : q ≤ 100000 := by
    rw [hq, hl]
    have h1 : (leastD n f many).length ≤ n := by
      unfold leastD leastL
      have := plc_len_le (n := n) (a := 0) (f := f) (t := false)
      split
      · simp
      · split
        · rw [List.length_take]; omega
        · simp
    have := h.p.top
    omega
  clear hbl hbx h hN hl hq c0
  go_enter Tryd.func11, Tryd.ntmps11
  go_wp2_with fail
  rw [← hwl]
  clear hwl
  refine wp_region_held_drew (S := fun w' => Fr (fun _ => False) wl.drew w') (by kernel_rfl) (Fr.refl _ _) (fun hHeld => ?_)
  clear hHeld
  refine wpAnyH_take (i := 0) (oi := ⟨some 34, _, _, _, _, _⟩) (v := ?vt0) rfl (by kernel_rfl) (by kernel_rfl) (by kernel_rfl) (fun _ _ _ h => h) (Or.inl ⟨by rfl, ?yt0⟩) (Fr.refl _ _) ?rt0
  case yt0 =>
    intro wq hSw
    (try dsimp only at hSw)
    first | (go_simp; done) | (go_simp; with_reducible rfl)
  try simp only [Act.put, List.setIfInBounds_toArray, List.set_cons_zero, List.set_cons_succ]
  refine wpAnyH_take (i := 1) (oi := ⟨some 35, _, _, _, _, _⟩) (v := ?vt1) rfl (by kernel_rfl) (by kernel_rfl) (by kernel_rfl) (fun _ _ _ h => h) (Or.inl ⟨by rfl, ?yt1⟩) (Fr.refl _ _) ?rt1
  case yt1 =>
    intro wq hSw
    (try dsimp only at hSw)
    first | (go_simp; done) | (go_simp; with_reducible rfl)
  try simp only [Act.put, List.setIfInBounds_toArray, List.set_cons_zero, List.set_cons_succ]
  refine wpAnyH_take (i := 2) (oi := ⟨some 36, _, _, _, _, _⟩) (v := ?vt2) rfl (by kernel_rfl) (by kernel_rfl) (by kernel_rfl) (fun _ _ _ h => h) (Or.inl ⟨by rfl, ?yt2⟩) (Fr.refl _ _) ?rt2
  case yt2 =>
    intro wq hSw
    (try dsimp only at hSw)
    have hq := hSw.cell_some C2.out (fun h => h)
    first | (go_simp; done) | (go_simp; with_reducible rfl)
  try simp only [Act.put, List.setIfInBounds_toArray, List.set_cons_zero, List.set_cons_succ]
  refine wpAnyH_take (i := 4) (oi := ⟨some 38, _, _, _, _, _⟩) (v := ?vt4) rfl (by kernel_rfl) (by kernel_rfl) (by kernel_rfl) (fun _ _ _ h => h) (Or.inl ⟨by rfl, ?yt4⟩) (Fr.refl _ _) ?rt4
  case yt4 =>
    intro wq hSw
    (try dsimp only at hSw)
    first | (go_simp; done) | (go_simp; with_reducible rfl)
  try simp only [Act.put, List.setIfInBounds_toArray, List.set_cons_zero, List.set_cons_succ]
  refine wpAnyH_take (i := 5) (oi := ⟨some 39, _, _, _, _, _⟩) (v := ?vt5) rfl (by kernel_rfl) (by kernel_rfl) (by kernel_rfl) (fun _ _ _ h => h) (Or.inl ⟨by rfl, ?yt5⟩) (Fr.refl _ _) ?rt5
  case yt5 =>
    intro wq hSw
    (try dsimp only at hSw)
    first | (go_simp; done) | (go_simp; with_reducible rfl)
  try simp only [Act.put, List.setIfInBounds_toArray, List.set_cons_zero, List.set_cons_succ]
  refine wpAnyH_take (i := 6) (oi := ⟨some 40, _, _, _, _, _⟩) (v := ?vt6) rfl (by kernel_rfl) (by kernel_rfl) (by kernel_rfl) (fun _ _ _ h => h) (Or.inl ⟨by rfl, ?yt6⟩) (Fr.refl _ _) ?rt6
  case yt6 =>
    intro wq hSw
    (try dsimp only at hSw)
    have hq := hSw.cell_some C2.out (fun h => h)
    first | (go_simp; done) | (go_simp; with_reducible rfl)
  try simp only [Act.put, List.setIfInBounds_toArray, List.set_cons_zero, List.set_cons_succ]
  refine wpAnyH_ready (rs := [3]) (by kernel_rfl) (by simp) ?_
  refine AllReadyH.cons (o := ⟨some 37, _, _, _, _, _⟩) rfl (fun K hK => ?_) AllReadyH.nil
  go_simp
  refine (least_z (.pointer (some ⟨M, 0, none⟩)) n f many hm wl.drew (HP.out.later (Below.drew (Below.refl _ _))).p.mp (HN.out.keep (Below.drew (Below.refl _ _)))).mono ?_; rintro e w2 ⟨A2, c2, rfl, ho2, hb2, hl2⟩
  have hfr : Fr (fun _ => False) wl.drew w2 := Fr.of_below hb2
  have hs2 := ho2.sl
  rw [← Hl.out, ← Hq.out] at hs2 ⊢
  have S2 := Lib.hid hs2
  have L2 := Lib.hid (show ∀ b o, A2 = some ⟨b, o, none⟩ → wl.heap.size ≤ b from hl2)
  have B2 := Lib.hid (show Below wl.heap.size wl w2 from (Below.drew (Below.refl _ _)).trans hb2)
  have HP2 := Lib.hid (HP.out.later B2.out)
  have C2 := Lib.hid (hfr.cell_some C2.out (fun h => h))
  clear ho2 hb2 hl2 hs2
  go_wp2_with fail
  refine hK.out _ _ hfr (fun hHeld => ?_)
  clear hK K hHeld
  try simp only [Act.put, List.setIfInBounds_toArray, List.set_cons_zero, List.set_cons_succ]
  refine wpAnyH_re (S' := fun w' => Fr (fun _ => False) w2 w') (fun w' h => hfr.trans h) ?_
  clear hfr
  refine wpAnyH_ready (rs := [7]) (by kernel_rfl) (by simp) ?_
  refine AllReadyH.cons (o := ⟨some 41, _, _, _, _, _⟩) rfl (fun K hK => ?_) AllReadyH.nil
  go_simp
  refine (rmpleast_any X n f A many w2 HP2.out.x).mono ?_; rintro e w3 ⟨A3, c3, rfl, hs3, hb3⟩
  have hfr : Fr (fun _ => False) w2 w3 := Fr.of_below hb3
  rw [← Hl.out, ← Hq.out] at hs3 ⊢
  have S3 := Lib.hid hs3
  have B3 := Lib.hid hb3
  clear hs3 hb3
  go_wp2_with fail
  refine hK.out _ _ hfr (fun hHeld => ?_)
  clear hK K hHeld
  try simp only [Act.put, List.setIfInBounds_toArray, List.set_cons_zero, List.set_cons_succ]
  refine wpAnyH_re (S' := fun w' => Fr (fun _ => False) w3 w') (fun w' h => hfr.trans h) ?_
  clear hfr
  refine wpAnyH_take (i := 8) (oi := ⟨some 7, _, _, _, _, _⟩) (v := ?vt8) rfl (by kernel_rfl) (by kernel_rfl) (by kernel_rfl) (fun _ _ _ h => h) (Or.inl ⟨by rfl, ?yt8⟩) (Fr.refl _ _) ?rt8
  case yt8 =>
    intro wq hSw
    (try dsimp only at hSw)
    first | (go_simp; done) | (go_simp; with_reducible rfl)
  try simp only [Act.put, List.setIfInBounds_toArray, List.set_cons_zero, List.set_cons_succ]
  refine wpAnyH_take (i := 9) (oi := ⟨some 8, _, _, _, _, _⟩) (v := ?vt9) rfl (by kernel_rfl) (by kernel_rfl) (by kernel_rfl) (fun _ _ _ h => h) (Or.inl ⟨by rfl, ?yt9⟩) (Fr.refl _ _) ?rt9
  case yt9 =>
    intro wq hSw
    (try dsimp only at hSw)
    first | (go_simp; done) | (go_simp; with_reducible rfl)
  try simp only [Act.put, List.setIfInBounds_toArray, List.set_cons_zero, List.set_cons_succ]
  refine wpAnyH_done (by kernel_rfl) ?_ _
  have hins := rints_any A2 q c2 l A3 q c3 l w3 (S2.out.below B3.out (Nat.le_refl _)) S3.out
  rw [show decide (l = l) = true by simp] at hins
  have S3b := Lib.hid (S2.out.below B3.out (Nat.le_refl _))
  have HP3 := Lib.hid (HP2.out.later B3.out)
  have B13 := Lib.hid (Hbl.out.trans ((B2.out.trans (B3.out.mono B2.out.size)).mono Hbl.out.size))
  go_wp2_with fail
  refine hins.mono ?_; clear hins; rintro e w4 ⟨rfl, hb4⟩
  have HP4 := Lib.hid (HP3.out.later hb4)
  have S4 := Lib.hid (S3b.out.below hb4 (Nat.le_refl _))
  have B4 := Lib.hid (B13.out.trans (hb4.mono B13.out.size))
  have LX := Lib.hid (show ∀ b o, A2 = some ⟨b, o, none⟩ → b ≠ B ∧ b ≠ X from fun b o e => by have := L2.out b o e; have := HP.out.p.ltB; have := HP.out.x.lt; omega)
  clear hb4
  go_wp2_with fail
  go_loopw [9] (fun i wr => ∃ (k : Nat) (g : Nat → Bool) (A' : Option Addr), k ≤ q ∧ i = .int .i64 (k : Int) ∧ Py12 s0 wr M B X n g A' ∧ Tk12 n f l k g ∧ Sl wr 1 A2 q c2 (ncells l) ∧ Fr (fun k => k = B ∨ k = X) w4 wr) (fun i _ => q - (intOf i).toNat)
  case atStart => exact ⟨0, f, A, by omega, rfl, HP4.out, ⟨fun j _ => by simp, by omega⟩, S4.out, Fr.refl _ _⟩
  case round =>
    obtain ⟨k, g, A', hk, rfl, hp5, ht5, hs5, hf5⟩ := hrel
    have P5 := Lib.hid hp5
    have S5 := Lib.hid hs5
    have F5 := Lib.hid hf5
    by_cases hkq : k < q
    · obtain ⟨b, o, rfl, hc⟩ := hs5.at_ hkq
      have hkl : k < l.length := by rw [← Hq.out]; exact hkq
      have hcell := hc k _ (ncells_get l k hkl)
      rw [show l[k]'hkl = l.getD k 0 from by simp [hkl]] at hcell
      obtain ⟨hgp, htn⟩ := ht5.next HL.out hkq
      obtain ⟨hpn, hpf⟩ := HL.out.free k hkq
      have hsf := set_free hpn hgp
      have hset := set_any M B n ((l.getD k 0 : Nat) : Int) g true wr P5.out.p
      rw [hsf.1, hsf.2] at hset
      have hset2 := fun W A (h : Xp W X n g A) => rmpset_any X n g A ((l.getD k 0 : Nat) : Int) true W h
      rw [hsf.1, hsf.2] at hset2
      obtain ⟨p, hp⟩ : ∃ p, p = l.getD k 0 := ⟨_, rfl⟩
      rw [← hp] at hcell hset hset2 htn
      have HTn := Lib.hid htn
      have Hset2 := Lib.hid hset2
      have hki : (k : Int) < (q : Int) := by omega
      have HbB := Lib.hid (LX.out b o rfl)
      have Hcell := Lib.hid hcell
      clear hc hgp htn hpf hsf hp hpn hkl hset2 hp5 ht5 hs5 hf5
      go_wp2_with fail
      refine hset.mono ?_; clear hset; rintro e w6 ⟨rfl, hp6, hf6⟩
      have hx6 := P5.out.half hf6
      have hset6 := Hset2.out w6 A' hx6
      have hcell6 := hf6.cell_some Hcell.out (by show ¬ b = B; exact HbB.out.1)
      have P6 := Lib.hid hp6
      have F6 := Lib.hid (show Fr (fun k => k = B ∨ k = X) w4 w6 from F5.out.trans (hf6.mono (fun b hb => .inl hb)))
      have S6 := Lib.hid (S5.out.fr hf6 (fun b' o' _ hA e => by have e : b' = B := e; injection hA with hA; injection hA with hA _; have := HbB.out.1; omega))
      have Z6 := Lib.hid (show wr.heap.size ≤ w6.heap.size from hf6.size)
      clear hp6 hf6 hx6 hcell
      go_wp2_with fail
      refine hset6.mono ?_; clear hset6; rintro e w7 ⟨rfl, A7, hx7, hf7, ha7⟩
      have P7 := Lib.hid (P5.out.both P6.out Z6.out hx7 hf7 ha7)
      have S7 := Lib.hid (S6.out.fr hf7 (fun b' o' _ hA e => by have e : b' = X := e; injection hA with hA; injection hA with hA _; have := HbB.out.2; omega))
      have F7 := Lib.hid (show Fr (fun k => k = B ∨ k = X) w4 w7 from F6.out.trans (hf7.mono (fun b hb => .inr hb)))
      clear hx7 hf7 ha7 hcell6
      go_wp2_with fail
      go_roundw
      case rel => exact ⟨k + 1, _, A7, by omega, by go_num, P7.out, HTn.out, S7.out, F7.out⟩
      case measure => simp [intOf]; omega
    · have hki : ¬ (k : Int) < (q : Int) := by omega
      clear hp5 ht5 hs5 hf5
      go_wp2_with fail
      go_ret
      exact ⟨rfl, _, _, P5.out, (Fr.of_below B4.out).trans F5.out⟩

set_option maxRecDepth 20000 in
set_option maxHeartbeats 800000 in
theorem act_else (s0 M B X n : Nat) (f : Nat → Bool) (A : Option Addr) (kd at_ many : Int) (h0 : kd ≠ 0) (h1 : kd ≠ 1) (h2 : kd ≠ 2) (h3 : kd ≠ 3) (h5 : kd ≠ 5) (w : World) (h : Py12 s0 w M B X n f A) :
    Calls Tryd.prog 11 #[.pointer (some ⟨M, 0, none⟩), .pointer (some ⟨X, 0, none⟩), .agg #[.int .i64 kd, .int .i64 at_, .int .i64 many]] w (RetAct s0 M B X n w) := by
  obtain ⟨wl, hwl⟩ : ∃ x, x = w.alloc (.cells #[.int .i64 kd, .int .i64 at_, .int .i64 many] 29) := ⟨_, rfl⟩
  have hbl : Below w.heap.size w wl := by rw [hwl]; exact (Below.refl _ _).alloc (Nat.le_refl _) _
  have HP := Lib.hid (h.later hbl)
  have Hbl := Lib.hid hbl
  have e0 : (kd == 0) = false := by simpa using h0
  have e1 : (kd == 1) = false := by simpa using h1
  have e2 : (kd == 2) = false := by simpa using h2
  have e3 : (kd == 3) = false := by simpa using h3
  have e5 : (kd == 5) = false := by simpa using h5
  clear hbl h h0 h1 h2 h3 h5
  go_enter Tryd.func11, Tryd.ntmps11
  go_wp2_with fail
  rw [← hwl]
  clear hwl
  go_ret
  exact ⟨rfl, _, _, HP.out, Fr.of_below Hbl.out⟩
theorem act_any (s0 M B X n : Nat) (f : Nat → Bool) (A : Option Addr) (kd at_ many : Int) (hm : many < 9223372036854775808) (w : World) (h : Py12 s0 w M B X n f A) (hN : Tz w) :
    Calls Tryd.prog 11 #[.pointer (some ⟨M, 0, none⟩), .pointer (some ⟨X, 0, none⟩), .agg #[.int .i64 kd, .int .i64 at_, .int .i64 many]] w (RetAct s0 M B X n w) := by
  by_cases h0 : kd = 0
  · subst h0; exact act_set0 s0 M B X n f A at_ many w h
  by_cases h1 : kd = 1
  · subst h1; exact act_set1 s0 M B X n f A at_ many w h
  by_cases h2 : kd = 2
  · subst h2; exact act_set2 s0 M B X n f A at_ many w h
  by_cases h3 : kd = 3
  · subst h3; exact act_set3 s0 M B X n f A at_ many w h
  by_cases h5 : kd = 5
  · subst h5; exact act_take s0 M B X n f A at_ many hm w h hN
  exact act_else s0 M B X n f A kd at_ many h0 h1 h2 h3 h5 w h
end Go.Proofs.YthkflghekgbgcaaDoor
