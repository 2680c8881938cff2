/-
  Contracts of package frame's takers of a record's parts. Conditions: bounds. (Written by gen_frl.py.)
-/
import Derived.Test.YtpijfghklgmefaaDoorFrk
namespace Go.Proofs.YtpijfghklgmefaaDoor
open Go.RowKit Go.Proofs
set_option linter.unusedVariables false
set_option maxRecDepth 20000
set_option maxHeartbeats 1600000

/-- A part more is taken: of a place and a fault. -/
def tkG {α : Type} (none : α) (get : Nat → α × Nat × Nat) (right : α → Bool) (s : Nat × Nat) : α × (Nat × Nat) :=
  if s.2 ≠ 0 then (none, s) else if (get s.1).2.2 ≠ 0 then (none, (s.1, (get s.1).2.2)) else if right (get s.1).1 = false then (none, (s.1, 3)) else ((get s.1).1, ((get s.1).2.1, 0))
/-- A text that is read, with the place and the fault. -/
structure Rdg (w : World) (R : Nat) (A : Option Addr) (n c : Nat) (l : List UInt8) (s : Nat × Nat) : Prop where
  r : ∃ t, w.heap[R]? = some (.cells #[.slice A n c, .int .i64 (s.1 : Int), .int .i64 (s.2 : Int)] t (0, 0))
  sl : Sl w 1 A n c (cells l)
  off : ∀ b o, 0 < n → A = some ⟨b, o, none⟩ → b ≠ R
section
variable {w w' : World} {R n c : Nat} {A : Option Addr} {l : List UInt8} {s : Nat × Nat}
theorem Rdg.c0 (h : Rdg w R A n c l s) : w.cell? ⟨R, 0, none⟩ = some (.slice A n c) := by obtain ⟨t, h⟩ := h.r; rw [cell_of_row _ _ _ _ _ _ h]; rfl
theorem Rdg.c1 (h : Rdg w R A n c l s) : w.cell? ⟨R, 1, none⟩ = some (.int .i64 (s.1 : Int)) := by obtain ⟨t, h⟩ := h.r; rw [cell_of_row _ _ _ _ _ _ h]; rfl
theorem Rdg.c2 (h : Rdg w R A n c l s) : w.cell? ⟨R, 2, none⟩ = some (.int .i64 (s.2 : Int)) := by obtain ⟨t, h⟩ := h.r; rw [cell_of_row _ _ _ _ _ _ h]; rfl
theorem Rdg.free (h : Rdg w R A n c l s) (i : Nat) : w.frozen? ⟨R, i, none⟩ = false := by obtain ⟨t, h⟩ := h.r; exact frozen_of_row _ _ _ _ _ h
theorem Rdg.lt (h : Rdg w R A n c l s) : R < w.heap.size := by obtain ⟨t, h⟩ := h.r; exact block_lt h
theorem Rdg.fr {S : Nat → Prop} (h : Rdg w R A n c l s) (hf : Fr S w w') (h1 : ¬ S R) (h2 : ∀ b o, 0 < n → A = some ⟨b, o, none⟩ → ¬ S b) : Rdg w' R A n c l s := by
  obtain ⟨t, h0⟩ := h.r
  exact ⟨⟨t, hf.row_some h0 h1⟩, h.sl.fr hf h2, h.off⟩
theorem Rdg.later (h : Rdg w R A n c l s) (hb : Below w.heap.size w w') : Rdg w' R A n c l s := h.fr (S := fun _ => False) (Fr.of_below hb) (fun h => h) (fun _ _ _ _ h => h)
theorem Rdg.set1 (h : Rdg w R A n c l s) (e : Nat) : Rdg (w.setCell ⟨R, 1, none⟩ (.int .i64 (e : Int))) R A n c l (e, s.2) ∧ Fr (fun k => k = R) w (w.setCell ⟨R, 1, none⟩ (.int .i64 (e : Int))) := by
  have hf : Fr (fun k => k = R) w (w.setCell ⟨R, 1, none⟩ (.int .i64 (e : Int))) := (Fr.refl (fun k => k = R) _).setCell (p := ⟨R, 1, none⟩) (.inr rfl) _
  obtain ⟨t, h0⟩ := h.r
  exact ⟨⟨⟨t, heap_setCell_same w R 1 _ _ _ h0⟩, h.sl.fr hf h.off, h.off⟩, hf⟩
theorem Rdg.set2 (h : Rdg w R A n c l s) (e : Nat) : Rdg (w.setCell ⟨R, 2, none⟩ (.int .i64 (e : Int))) R A n c l (s.1, e) ∧ Fr (fun k => k = R) w (w.setCell ⟨R, 2, none⟩ (.int .i64 (e : Int))) := by
  have hf : Fr (fun k => k = R) w (w.setCell ⟨R, 2, none⟩ (.int .i64 (e : Int))) := (Fr.refl (fun k => k = R) _).setCell (p := ⟨R, 2, none⟩) (.inr rfl) _
  obtain ⟨t, h0⟩ := h.r
  exact ⟨⟨⟨t, heap_setCell_same w R 2 _ _ _ h0⟩, h.sl.fr hf h.off, h.off⟩, hf⟩
end
/-- What a taker holds: the text that is read, and two functions. -/
structure Tk3 (w : World) (t g p R : Nat) (G P : Value) : Prop where
  ne : t ≠ R ∧ g ≠ R ∧ p ≠ R
  t : Cel w t (.pointer (some ⟨R, 0, none⟩))
  g : Cel w g G
  p : Cel w p P
section
variable {w w' : World} {t g p R : Nat} {G P : Value}
theorem Tk3.fr {S : Nat → Prop} (h : Tk3 w t g p R G P) (hf : Fr S w w') (h1 : ¬ S t) (h2 : ¬ S g) (h3 : ¬ S p) : Tk3 w' t g p R G P := ⟨h.ne, h.t.fr hf h1, h.g.fr hf h2, h.p.fr hf h3⟩
theorem Tk3.later (h : Tk3 w t g p R G P) (hb : Below w.heap.size w w') : Tk3 w' t g p R G P := h.fr (S := fun _ => False) (Fr.of_below hb) (fun h => h) (fun h => h) (fun h => h)
theorem Tk3.frR (h : Tk3 w t g p R G P) (hf : Fr (fun k => k = R) w w') : Tk3 w' t g p R G P := h.fr hf h.ne.1 h.ne.2.1 h.ne.2.2
end
theorem ftake64 (fg fp : Nat) (eg : ∀ args w, (callFunc fg args).run Tryd.prog w = .ok (.enter fg args) w) (ep : ∀ args w, (callFunc fp args).run Tryd.prog w = .ok (.enter fp args) w) (get : Nat → Nat × Nat × Nat) (right : Nat → Bool) (R t g p : Nat) (A : Option Addr) (n c : Nat) (l : List UInt8) (s : Nat × Nat) (w : World) (h : Rdg w R A n c l s) (hk : Tk3 w t g p R (.func (.func fg) #[] #[]) (.func (.func fp) #[] #[]))
    (hg : ∀ w', Sl w' 1 A n c (cells l) → Calls Tryd.prog fg #[.slice A n c, .int .i64 (s.1 : Int)] w' fun e w'' => e = .returned (.tuple #[.int .u64 (((get s.1).1 : Nat) : Int), .int .i64 ((get s.1).2.1 : Int), .int .i64 ((get s.1).2.2 : Int)]) ∧ w'' = w')
    (hr : ∀ x w', Calls Tryd.prog fp (#[.int .u64 ((x : Nat) : Int)]) w' fun e w'' => e = .returned (.bool (right x)) ∧ w'' = w') :
    Calls Tryd.prog 57 #[.pointer (some ⟨t, 0, none⟩), .pointer (some ⟨g, 0, none⟩), .pointer (some ⟨p, 0, none⟩)] w
      fun e w' => e = .returned (.int .u64 (((tkG 0 get right s).1 : Nat) : Int)) ∧ Rdg w' R A n c l (tkG 0 get right s).2 ∧ Fr (fun k => k = R) w w' := by
  obtain ⟨at_, fault⟩ := s
  have kt := hk.t.cell
  have r2 := h.c2
  have KK := Lib.hid hk
  have RR := Lib.hid h
  dsimp only at r2 hg
  by_cases hf : fault = 0
  · subst hf
    obtain ⟨x, q, er, hx⟩ : ∃ x q er, get at_ = (x, q, er) := ⟨_, _, _, rfl⟩
    have ht : tkG 0 get right (at_, 0) = if er ≠ 0 then (0, (at_, er)) else if right x = false then (0, (at_, 3)) else (x, (q, 0)) := by unfold tkG; rw [if_neg (by simp)]; dsimp only; rw [hx]
    rw [ht]
    rw [hx] at hg
    dsimp only at hg
    have HG := Lib.hid hg
    have HR := Lib.hid hr
    have RD := Lib.hid (show Rdg w.drew R A n c l (at_, 0) from h.later (Below.drew (Below.refl _ _)))
    have KD := Lib.hid (show Tk3 w.drew t g p R (.func (.func fg) #[] #[]) (.func (.func fp) #[] #[]) from hk.later (Below.drew (Below.refl _ _)))
    have FD := Lib.hid (show Fr (fun k => k = R) w w.drew from Fr.of_below (Below.drew (Below.refl _ _)))
    have dp := KD.out.p.cell
    have dt := KD.out.t.cell
    have d1 := RD.out.c1
    have d2 := RD.out.c2
    have f1 := RD.out.free 1
    have f2 := RD.out.free 2
    clear h hk hg hr ht hx
    by_cases he : er = 0
    · subst he
      rw [if_neg (by simp)]
      cases hrx : right x
      · rw [if_pos rfl]
        have hrr := HR.out x w.drew
        rw [hrx] at hrr
        clear hrx
        go_enter Tryd.func57, Tryd.ntmps57
        go_wp2_with fail
        refine wp_region_held_drew (S := fun w' => Fr (fun _ => False) w.drew w') (by kernel_rfl) (Fr.refl _ _) (fun hHeld => ?_)
        clear hHeld
        refine wpAnyH_take (i := 0) (oi := ⟨some 15, _, _, _, _, _⟩) (v := ?vta0) rfl (by kernel_rfl) (by kernel_rfl) (by kernel_rfl) (fun _ _ _ h => h) (Or.inl ⟨by rfl, ?yta0⟩) (Fr.refl _ _) ?rta0
        case yta0 =>
          intro wq hSw
          (try dsimp only at hSw)
          have hq := (KK.out.fr ((Fr.of_below (Below.drew (Below.refl _ _))).trans hSw) (fun h => h) (fun h => h) (fun h => h)).g.cell
          first | (go_simp; done) | (go_simp; with_reducible rfl)
        try simp only [Act.put, List.setIfInBounds_toArray, List.set_cons_zero, List.set_cons_succ]
        refine wpAnyH_take (i := 1) (oi := ⟨some 16, _, _, _, _, _⟩) (v := ?vta1) rfl (by kernel_rfl) (by kernel_rfl) (by kernel_rfl) (fun _ _ _ h => h) (Or.inl ⟨by rfl, ?yta1⟩) (Fr.refl _ _) ?rta1
        case yta1 =>
          intro wq hSw
          (try dsimp only at hSw)
          have hq := (KK.out.fr ((Fr.of_below (Below.drew (Below.refl _ _))).trans hSw) (fun h => h) (fun h => h) (fun h => h)).t.cell
          first | (go_simp; done) | (go_simp; with_reducible rfl)
        try simp only [Act.put, List.setIfInBounds_toArray, List.set_cons_zero, List.set_cons_succ]
        refine wpAnyH_take (i := 2) (oi := ⟨some 17, _, _, _, _, _⟩) (v := ?vta2) rfl (by kernel_rfl) (by kernel_rfl) (by kernel_rfl) (fun _ _ _ h => h) (Or.inl ⟨by rfl, ?yta2⟩) (Fr.refl _ _) ?rta2
        case yta2 =>
          intro wq hSw
          (try dsimp only at hSw)
          first | (go_simp; done) | (go_simp; with_reducible rfl)
        try simp only [Act.put, List.setIfInBounds_toArray, List.set_cons_zero, List.set_cons_succ]
        refine wpAnyH_take (i := 3) (oi := ⟨some 18, _, _, _, _, _⟩) (v := ?vta3) rfl (by kernel_rfl) (by kernel_rfl) (by kernel_rfl) (fun _ _ _ h => h) (Or.inl ⟨by rfl, ?yta3⟩) (Fr.refl _ _) ?rta3
        case yta3 =>
          intro wq hSw
          (try dsimp only at hSw)
          first | (go_simp; done) | (go_simp; with_reducible rfl)
        try simp only [Act.put, List.setIfInBounds_toArray, List.set_cons_zero, List.set_cons_succ]
        refine wpAnyH_take (i := 4) (oi := ⟨some 19, _, _, _, _, _⟩) (v := ?vta4) rfl (by kernel_rfl) (by kernel_rfl) (by kernel_rfl) (fun _ _ _ h => h) (Or.inl ⟨by rfl, ?yta4⟩) (Fr.refl _ _) ?rta4
        case yta4 =>
          intro wq hSw
          (try dsimp only at hSw)
          have hq := (RR.out.fr ((Fr.of_below (Below.drew (Below.refl _ _))).trans hSw) (fun h => h) (fun _ _ _ _ h => h)).c0
          first | (go_simp; done) | (go_simp; with_reducible rfl)
        try simp only [Act.put, List.setIfInBounds_toArray, List.set_cons_zero, List.set_cons_succ]
        refine wpAnyH_take (i := 5) (oi := ⟨some 20, _, _, _, _, _⟩) (v := ?vta5) rfl (by kernel_rfl) (by kernel_rfl) (by kernel_rfl) (fun _ _ _ h => h) (Or.inl ⟨by rfl, ?yta5⟩) (Fr.refl _ _) ?rta5
        case yta5 =>
          intro wq hSw
          (try dsimp only at hSw)
          have hq := (KK.out.fr ((Fr.of_below (Below.drew (Below.refl _ _))).trans hSw) (fun h => h) (fun h => h) (fun h => h)).t.cell
          first | (go_simp; done) | (go_simp; with_reducible rfl)
        try simp only [Act.put, List.setIfInBounds_toArray, List.set_cons_zero, List.set_cons_succ]
        refine wpAnyH_take (i := 6) (oi := ⟨some 21, _, _, _, _, _⟩) (v := ?vta6) rfl (by kernel_rfl) (by kernel_rfl) (by kernel_rfl) (fun _ _ _ h => h) (Or.inl ⟨by rfl, ?yta6⟩) (Fr.refl _ _) ?rta6
        case yta6 =>
          intro wq hSw
          (try dsimp only at hSw)
          first | (go_simp; done) | (go_simp; with_reducible rfl)
        try simp only [Act.put, List.setIfInBounds_toArray, List.set_cons_zero, List.set_cons_succ]
        refine wpAnyH_take (i := 7) (oi := ⟨some 22, _, _, _, _, _⟩) (v := ?vta7) rfl (by kernel_rfl) (by kernel_rfl) (by kernel_rfl) (fun _ _ _ h => h) (Or.inl ⟨by rfl, ?yta7⟩) (Fr.refl _ _) ?rta7
        case yta7 =>
          intro wq hSw
          (try dsimp only at hSw)
          first | (go_simp; done) | (go_simp; with_reducible rfl)
        try simp only [Act.put, List.setIfInBounds_toArray, List.set_cons_zero, List.set_cons_succ]
        refine wpAnyH_take (i := 8) (oi := ⟨some 23, _, _, _, _, _⟩) (v := ?vta8) rfl (by kernel_rfl) (by kernel_rfl) (by kernel_rfl) (fun _ _ _ h => h) (Or.inl ⟨by rfl, ?yta8⟩) (Fr.refl _ _) ?rta8
        case yta8 =>
          intro wq hSw
          (try dsimp only at hSw)
          have hq := (RR.out.fr ((Fr.of_below (Below.drew (Below.refl _ _))).trans hSw) (fun h => h) (fun _ _ _ _ h => h)).c1
          first | (go_simp; done) | (go_simp; with_reducible rfl)
        try simp only [Act.put, List.setIfInBounds_toArray, List.set_cons_zero, List.set_cons_succ]
        refine wpAnyH_ready (rs := [9]) (by kernel_rfl) (by simp) ?_
        refine AllReadyH.cons (o := ⟨some 24, _, _, _, _, _⟩) rfl (fun K hK => ?_) AllReadyH.nil
        go_simp
        refine (HG.out w.drew RR.out.sl.drew).mono ?_; rintro e' w2 ⟨rfl, hw2⟩
        obtain rfl : w.drew = w2 := hw2.symm
        have hfr : Fr (fun _ => False) w.drew w.drew := Fr.refl _ _
        go_wp2_with fail
        refine hK.out _ _ hfr (fun hHeld => ?_)
        clear hK K hHeld
        try simp only [Act.put, List.setIfInBounds_toArray, List.set_cons_zero, List.set_cons_succ]
        refine wpAnyH_re (S' := fun w' => Fr (fun _ => False) w.drew w') (fun w' h => hfr.trans h) ?_
        clear hfr
        refine wpAnyH_take (i := 10) (oi := ⟨some 14, _, _, _, _, _⟩) (v := ?vta10) rfl (by kernel_rfl) (by kernel_rfl) (by kernel_rfl) (fun _ _ _ h => h) (Or.inl ⟨by rfl, ?yta10⟩) (Fr.refl _ _) ?rta10
        case yta10 =>
          intro wq hSw
          (try dsimp only at hSw)
          first | (go_simp; done) | (go_simp; with_reducible rfl)
        try simp only [Act.put, List.setIfInBounds_toArray, List.set_cons_zero, List.set_cons_succ]
        refine wpAnyH_take (i := 11) (oi := ⟨some 25, _, _, _, _, _⟩) (v := ?vta11) rfl (by kernel_rfl) (by kernel_rfl) (by kernel_rfl) (fun _ _ _ h => h) (Or.inl ⟨by rfl, ?yta11⟩) (Fr.refl _ _) ?rta11
        case yta11 =>
          intro wq hSw
          (try dsimp only at hSw)
          first | (go_simp; done) | (go_simp; with_reducible rfl)
        try simp only [Act.put, List.setIfInBounds_toArray, List.set_cons_zero, List.set_cons_succ]
        refine wpAnyH_take (i := 12) (oi := ⟨some 26, _, _, _, _, _⟩) (v := ?vta12) rfl (by kernel_rfl) (by kernel_rfl) (by kernel_rfl) (fun _ _ _ h => h) (Or.inl ⟨by rfl, ?yta12⟩) (Fr.refl _ _) ?rta12
        case yta12 =>
          intro wq hSw
          (try dsimp only at hSw)
          first | (go_simp; done) | (go_simp; with_reducible rfl)
        try simp only [Act.put, List.setIfInBounds_toArray, List.set_cons_zero, List.set_cons_succ]
        refine wpAnyH_take (i := 13) (oi := ⟨some 27, _, _, _, _, _⟩) (v := ?vta13) rfl (by kernel_rfl) (by kernel_rfl) (by kernel_rfl) (fun _ _ _ h => h) (Or.inl ⟨by rfl, ?yta13⟩) (Fr.refl _ _) ?rta13
        case yta13 =>
          intro wq hSw
          (try dsimp only at hSw)
          first | (go_simp; done) | (go_simp; with_reducible rfl)
        try simp only [Act.put, List.setIfInBounds_toArray, List.set_cons_zero, List.set_cons_succ]
        refine wpAnyH_take (i := 14) (oi := ⟨some 5, _, _, _, _, _⟩) (v := ?vta14) rfl (by kernel_rfl) (by kernel_rfl) (by kernel_rfl) (fun _ _ _ h => h) (Or.inl ⟨by rfl, ?yta14⟩) (Fr.refl _ _) ?rta14
        case yta14 =>
          intro wq hSw
          (try dsimp only at hSw)
          first | (go_simp; done) | (go_simp; with_reducible rfl)
        try simp only [Act.put, List.setIfInBounds_toArray, List.set_cons_zero, List.set_cons_succ]
        refine wpAnyH_take (i := 15) (oi := ⟨some 6, _, _, _, _, _⟩) (v := ?vta15) rfl (by kernel_rfl) (by kernel_rfl) (by kernel_rfl) (fun _ _ _ h => h) (Or.inl ⟨by rfl, ?yta15⟩) (Fr.refl _ _) ?rta15
        case yta15 =>
          intro wq hSw
          (try dsimp only at hSw)
          first | (go_simp; done) | (go_simp; with_reducible rfl)
        try simp only [Act.put, List.setIfInBounds_toArray, List.set_cons_zero, List.set_cons_succ]
        refine wpAnyH_take (i := 16) (oi := ⟨some 7, _, _, _, _, _⟩) (v := ?vta16) rfl (by kernel_rfl) (by kernel_rfl) (by kernel_rfl) (fun _ _ _ h => h) (Or.inl ⟨by rfl, ?yta16⟩) (Fr.refl _ _) ?rta16
        case yta16 =>
          intro wq hSw
          (try dsimp only at hSw)
          first | (go_simp; done) | (go_simp; with_reducible rfl)
        try simp only [Act.put, List.setIfInBounds_toArray, List.set_cons_zero, List.set_cons_succ]
        refine wpAnyH_done (by kernel_rfl) ?_ _
        go_wp2_with fail
        refine hrr.mono ?_; clear hrr; rintro e w3 ⟨rfl, hw3⟩
        obtain rfl : w.drew = w3 := hw3.symm
        go_wp2_with fail
        go_ret
        exact ⟨rfl, (RD.out.set2 3).1, FD.out.trans (RD.out.set2 3).2⟩
      · rw [if_neg (by simp)]
        have hrr := HR.out x w.drew
        rw [hrx] at hrr
        clear hrx
        go_enter Tryd.func57, Tryd.ntmps57
        go_wp2_with fail
        refine wp_region_held_drew (S := fun w' => Fr (fun _ => False) w.drew w') (by kernel_rfl) (Fr.refl _ _) (fun hHeld => ?_)
        clear hHeld
        refine wpAnyH_take (i := 0) (oi := ⟨some 15, _, _, _, _, _⟩) (v := ?vtb0) rfl (by kernel_rfl) (by kernel_rfl) (by kernel_rfl) (fun _ _ _ h => h) (Or.inl ⟨by rfl, ?ytb0⟩) (Fr.refl _ _) ?rtb0
        case ytb0 =>
          intro wq hSw
          (try dsimp only at hSw)
          have hq := (KK.out.fr ((Fr.of_below (Below.drew (Below.refl _ _))).trans hSw) (fun h => h) (fun h => h) (fun h => h)).g.cell
          first | (go_simp; done) | (go_simp; with_reducible rfl)
        try simp only [Act.put, List.setIfInBounds_toArray, List.set_cons_zero, List.set_cons_succ]
        refine wpAnyH_take (i := 1) (oi := ⟨some 16, _, _, _, _, _⟩) (v := ?vtb1) rfl (by kernel_rfl) (by kernel_rfl) (by kernel_rfl) (fun _ _ _ h => h) (Or.inl ⟨by rfl, ?ytb1⟩) (Fr.refl _ _) ?rtb1
        case ytb1 =>
          intro wq hSw
          (try dsimp only at hSw)
          have hq := (KK.out.fr ((Fr.of_below (Below.drew (Below.refl _ _))).trans hSw) (fun h => h) (fun h => h) (fun h => h)).t.cell
          first | (go_simp; done) | (go_simp; with_reducible rfl)
        try simp only [Act.put, List.setIfInBounds_toArray, List.set_cons_zero, List.set_cons_succ]
        refine wpAnyH_take (i := 2) (oi := ⟨some 17, _, _, _, _, _⟩) (v := ?vtb2) rfl (by kernel_rfl) (by kernel_rfl) (by kernel_rfl) (fun _ _ _ h => h) (Or.inl ⟨by rfl, ?ytb2⟩) (Fr.refl _ _) ?rtb2
        case ytb2 =>
          intro wq hSw
          (try dsimp only at hSw)
          first | (go_simp; done) | (go_simp; with_reducible rfl)
        try simp only [Act.put, List.setIfInBounds_toArray, List.set_cons_zero, List.set_cons_succ]
        refine wpAnyH_take (i := 3) (oi := ⟨some 18, _, _, _, _, _⟩) (v := ?vtb3) rfl (by kernel_rfl) (by kernel_rfl) (by kernel_rfl) (fun _ _ _ h => h) (Or.inl ⟨by rfl, ?ytb3⟩) (Fr.refl _ _) ?rtb3
        case ytb3 =>
          intro wq hSw
          (try dsimp only at hSw)
          first | (go_simp; done) | (go_simp; with_reducible rfl)
        try simp only [Act.put, List.setIfInBounds_toArray, List.set_cons_zero, List.set_cons_succ]
        refine wpAnyH_take (i := 4) (oi := ⟨some 19, _, _, _, _, _⟩) (v := ?vtb4) rfl (by kernel_rfl) (by kernel_rfl) (by kernel_rfl) (fun _ _ _ h => h) (Or.inl ⟨by rfl, ?ytb4⟩) (Fr.refl _ _) ?rtb4
        case ytb4 =>
          intro wq hSw
          (try dsimp only at hSw)
          have hq := (RR.out.fr ((Fr.of_below (Below.drew (Below.refl _ _))).trans hSw) (fun h => h) (fun _ _ _ _ h => h)).c0
          first | (go_simp; done) | (go_simp; with_reducible rfl)
        try simp only [Act.put, List.setIfInBounds_toArray, List.set_cons_zero, List.set_cons_succ]
        refine wpAnyH_take (i := 5) (oi := ⟨some 20, _, _, _, _, _⟩) (v := ?vtb5) rfl (by kernel_rfl) (by kernel_rfl) (by kernel_rfl) (fun _ _ _ h => h) (Or.inl ⟨by rfl, ?ytb5⟩) (Fr.refl _ _) ?rtb5
        case ytb5 =>
          intro wq hSw
          (try dsimp only at hSw)
          have hq := (KK.out.fr ((Fr.of_below (Below.drew (Below.refl _ _))).trans hSw) (fun h => h) (fun h => h) (fun h => h)).t.cell
          first | (go_simp; done) | (go_simp; with_reducible rfl)
        try simp only [Act.put, List.setIfInBounds_toArray, List.set_cons_zero, List.set_cons_succ]
        refine wpAnyH_take (i := 6) (oi := ⟨some 21, _, _, _, _, _⟩) (v := ?vtb6) rfl (by kernel_rfl) (by kernel_rfl) (by kernel_rfl) (fun _ _ _ h => h) (Or.inl ⟨by rfl, ?ytb6⟩) (Fr.refl _ _) ?rtb6
        case ytb6 =>
          intro wq hSw
          (try dsimp only at hSw)
          first | (go_simp; done) | (go_simp; with_reducible rfl)
        try simp only [Act.put, List.setIfInBounds_toArray, List.set_cons_zero, List.set_cons_succ]
        refine wpAnyH_take (i := 7) (oi := ⟨some 22, _, _, _, _, _⟩) (v := ?vtb7) rfl (by kernel_rfl) (by kernel_rfl) (by kernel_rfl) (fun _ _ _ h => h) (Or.inl ⟨by rfl, ?ytb7⟩) (Fr.refl _ _) ?rtb7
        case ytb7 =>
          intro wq hSw
          (try dsimp only at hSw)
          first | (go_simp; done) | (go_simp; with_reducible rfl)
        try simp only [Act.put, List.setIfInBounds_toArray, List.set_cons_zero, List.set_cons_succ]
        refine wpAnyH_take (i := 8) (oi := ⟨some 23, _, _, _, _, _⟩) (v := ?vtb8) rfl (by kernel_rfl) (by kernel_rfl) (by kernel_rfl) (fun _ _ _ h => h) (Or.inl ⟨by rfl, ?ytb8⟩) (Fr.refl _ _) ?rtb8
        case ytb8 =>
          intro wq hSw
          (try dsimp only at hSw)
          have hq := (RR.out.fr ((Fr.of_below (Below.drew (Below.refl _ _))).trans hSw) (fun h => h) (fun _ _ _ _ h => h)).c1
          first | (go_simp; done) | (go_simp; with_reducible rfl)
        try simp only [Act.put, List.setIfInBounds_toArray, List.set_cons_zero, List.set_cons_succ]
        refine wpAnyH_ready (rs := [9]) (by kernel_rfl) (by simp) ?_
        refine AllReadyH.cons (o := ⟨some 24, _, _, _, _, _⟩) rfl (fun K hK => ?_) AllReadyH.nil
        go_simp
        refine (HG.out w.drew RR.out.sl.drew).mono ?_; rintro e' w2 ⟨rfl, hw2⟩
        obtain rfl : w.drew = w2 := hw2.symm
        have hfr : Fr (fun _ => False) w.drew w.drew := Fr.refl _ _
        go_wp2_with fail
        refine hK.out _ _ hfr (fun hHeld => ?_)
        clear hK K hHeld
        try simp only [Act.put, List.setIfInBounds_toArray, List.set_cons_zero, List.set_cons_succ]
        refine wpAnyH_re (S' := fun w' => Fr (fun _ => False) w.drew w') (fun w' h => hfr.trans h) ?_
        clear hfr
        refine wpAnyH_take (i := 10) (oi := ⟨some 14, _, _, _, _, _⟩) (v := ?vtb10) rfl (by kernel_rfl) (by kernel_rfl) (by kernel_rfl) (fun _ _ _ h => h) (Or.inl ⟨by rfl, ?ytb10⟩) (Fr.refl _ _) ?rtb10
        case ytb10 =>
          intro wq hSw
          (try dsimp only at hSw)
          first | (go_simp; done) | (go_simp; with_reducible rfl)
        try simp only [Act.put, List.setIfInBounds_toArray, List.set_cons_zero, List.set_cons_succ]
        refine wpAnyH_take (i := 11) (oi := ⟨some 25, _, _, _, _, _⟩) (v := ?vtb11) rfl (by kernel_rfl) (by kernel_rfl) (by kernel_rfl) (fun _ _ _ h => h) (Or.inl ⟨by rfl, ?ytb11⟩) (Fr.refl _ _) ?rtb11
        case ytb11 =>
          intro wq hSw
          (try dsimp only at hSw)
          first | (go_simp; done) | (go_simp; with_reducible rfl)
        try simp only [Act.put, List.setIfInBounds_toArray, List.set_cons_zero, List.set_cons_succ]
        refine wpAnyH_take (i := 12) (oi := ⟨some 26, _, _, _, _, _⟩) (v := ?vtb12) rfl (by kernel_rfl) (by kernel_rfl) (by kernel_rfl) (fun _ _ _ h => h) (Or.inl ⟨by rfl, ?ytb12⟩) (Fr.refl _ _) ?rtb12
        case ytb12 =>
          intro wq hSw
          (try dsimp only at hSw)
          first | (go_simp; done) | (go_simp; with_reducible rfl)
        try simp only [Act.put, List.setIfInBounds_toArray, List.set_cons_zero, List.set_cons_succ]
        refine wpAnyH_take (i := 13) (oi := ⟨some 27, _, _, _, _, _⟩) (v := ?vtb13) rfl (by kernel_rfl) (by kernel_rfl) (by kernel_rfl) (fun _ _ _ h => h) (Or.inl ⟨by rfl, ?ytb13⟩) (Fr.refl _ _) ?rtb13
        case ytb13 =>
          intro wq hSw
          (try dsimp only at hSw)
          first | (go_simp; done) | (go_simp; with_reducible rfl)
        try simp only [Act.put, List.setIfInBounds_toArray, List.set_cons_zero, List.set_cons_succ]
        refine wpAnyH_take (i := 14) (oi := ⟨some 5, _, _, _, _, _⟩) (v := ?vtb14) rfl (by kernel_rfl) (by kernel_rfl) (by kernel_rfl) (fun _ _ _ h => h) (Or.inl ⟨by rfl, ?ytb14⟩) (Fr.refl _ _) ?rtb14
        case ytb14 =>
          intro wq hSw
          (try dsimp only at hSw)
          first | (go_simp; done) | (go_simp; with_reducible rfl)
        try simp only [Act.put, List.setIfInBounds_toArray, List.set_cons_zero, List.set_cons_succ]
        refine wpAnyH_take (i := 15) (oi := ⟨some 6, _, _, _, _, _⟩) (v := ?vtb15) rfl (by kernel_rfl) (by kernel_rfl) (by kernel_rfl) (fun _ _ _ h => h) (Or.inl ⟨by rfl, ?ytb15⟩) (Fr.refl _ _) ?rtb15
        case ytb15 =>
          intro wq hSw
          (try dsimp only at hSw)
          first | (go_simp; done) | (go_simp; with_reducible rfl)
        try simp only [Act.put, List.setIfInBounds_toArray, List.set_cons_zero, List.set_cons_succ]
        refine wpAnyH_take (i := 16) (oi := ⟨some 7, _, _, _, _, _⟩) (v := ?vtb16) rfl (by kernel_rfl) (by kernel_rfl) (by kernel_rfl) (fun _ _ _ h => h) (Or.inl ⟨by rfl, ?ytb16⟩) (Fr.refl _ _) ?rtb16
        case ytb16 =>
          intro wq hSw
          (try dsimp only at hSw)
          first | (go_simp; done) | (go_simp; with_reducible rfl)
        try simp only [Act.put, List.setIfInBounds_toArray, List.set_cons_zero, List.set_cons_succ]
        refine wpAnyH_done (by kernel_rfl) ?_ _
        go_wp2_with fail
        refine hrr.mono ?_; clear hrr; rintro e w3 ⟨rfl, hw3⟩
        obtain rfl : w.drew = w3 := hw3.symm
        go_wp2_with fail
        go_ret
        exact ⟨rfl, (RD.out.set1 q).1, FD.out.trans (RD.out.set1 q).2⟩
    · rw [if_pos he]
      have hei : ¬ (er : Int) = 0 := by omega
      go_enter Tryd.func57, Tryd.ntmps57
      go_wp2_with fail
      refine wp_region_held_drew (S := fun w' => Fr (fun _ => False) w.drew w') (by kernel_rfl) (Fr.refl _ _) (fun hHeld => ?_)
      clear hHeld
      refine wpAnyH_take (i := 0) (oi := ⟨some 15, _, _, _, _, _⟩) (v := ?vtc0) rfl (by kernel_rfl) (by kernel_rfl) (by kernel_rfl) (fun _ _ _ h => h) (Or.inl ⟨by rfl, ?ytc0⟩) (Fr.refl _ _) ?rtc0
      case ytc0 =>
        intro wq hSw
        (try dsimp only at hSw)
        have hq := (KK.out.fr ((Fr.of_below (Below.drew (Below.refl _ _))).trans hSw) (fun h => h) (fun h => h) (fun h => h)).g.cell
        first | (go_simp; done) | (go_simp; with_reducible rfl)
      try simp only [Act.put, List.setIfInBounds_toArray, List.set_cons_zero, List.set_cons_succ]
      refine wpAnyH_take (i := 1) (oi := ⟨some 16, _, _, _, _, _⟩) (v := ?vtc1) rfl (by kernel_rfl) (by kernel_rfl) (by kernel_rfl) (fun _ _ _ h => h) (Or.inl ⟨by rfl, ?ytc1⟩) (Fr.refl _ _) ?rtc1
      case ytc1 =>
        intro wq hSw
        (try dsimp only at hSw)
        have hq := (KK.out.fr ((Fr.of_below (Below.drew (Below.refl _ _))).trans hSw) (fun h => h) (fun h => h) (fun h => h)).t.cell
        first | (go_simp; done) | (go_simp; with_reducible rfl)
      try simp only [Act.put, List.setIfInBounds_toArray, List.set_cons_zero, List.set_cons_succ]
      refine wpAnyH_take (i := 2) (oi := ⟨some 17, _, _, _, _, _⟩) (v := ?vtc2) rfl (by kernel_rfl) (by kernel_rfl) (by kernel_rfl) (fun _ _ _ h => h) (Or.inl ⟨by rfl, ?ytc2⟩) (Fr.refl _ _) ?rtc2
      case ytc2 =>
        intro wq hSw
        (try dsimp only at hSw)
        first | (go_simp; done) | (go_simp; with_reducible rfl)
      try simp only [Act.put, List.setIfInBounds_toArray, List.set_cons_zero, List.set_cons_succ]
      refine wpAnyH_take (i := 3) (oi := ⟨some 18, _, _, _, _, _⟩) (v := ?vtc3) rfl (by kernel_rfl) (by kernel_rfl) (by kernel_rfl) (fun _ _ _ h => h) (Or.inl ⟨by rfl, ?ytc3⟩) (Fr.refl _ _) ?rtc3
      case ytc3 =>
        intro wq hSw
        (try dsimp only at hSw)
        first | (go_simp; done) | (go_simp; with_reducible rfl)
      try simp only [Act.put, List.setIfInBounds_toArray, List.set_cons_zero, List.set_cons_succ]
      refine wpAnyH_take (i := 4) (oi := ⟨some 19, _, _, _, _, _⟩) (v := ?vtc4) rfl (by kernel_rfl) (by kernel_rfl) (by kernel_rfl) (fun _ _ _ h => h) (Or.inl ⟨by rfl, ?ytc4⟩) (Fr.refl _ _) ?rtc4
      case ytc4 =>
        intro wq hSw
        (try dsimp only at hSw)
        have hq := (RR.out.fr ((Fr.of_below (Below.drew (Below.refl _ _))).trans hSw) (fun h => h) (fun _ _ _ _ h => h)).c0
        first | (go_simp; done) | (go_simp; with_reducible rfl)
      try simp only [Act.put, List.setIfInBounds_toArray, List.set_cons_zero, List.set_cons_succ]
      refine wpAnyH_take (i := 5) (oi := ⟨some 20, _, _, _, _, _⟩) (v := ?vtc5) rfl (by kernel_rfl) (by kernel_rfl) (by kernel_rfl) (fun _ _ _ h => h) (Or.inl ⟨by rfl, ?ytc5⟩) (Fr.refl _ _) ?rtc5
      case ytc5 =>
        intro wq hSw
        (try dsimp only at hSw)
        have hq := (KK.out.fr ((Fr.of_below (Below.drew (Below.refl _ _))).trans hSw) (fun h => h) (fun h => h) (fun h => h)).t.cell
        first | (go_simp; done) | (go_simp; with_reducible rfl)
      try simp only [Act.put, List.setIfInBounds_toArray, List.set_cons_zero, List.set_cons_succ]
      refine wpAnyH_take (i := 6) (oi := ⟨some 21, _, _, _, _, _⟩) (v := ?vtc6) rfl (by kernel_rfl) (by kernel_rfl) (by kernel_rfl) (fun _ _ _ h => h) (Or.inl ⟨by rfl, ?ytc6⟩) (Fr.refl _ _) ?rtc6
      case ytc6 =>
        intro wq hSw
        (try dsimp only at hSw)
        first | (go_simp; done) | (go_simp; with_reducible rfl)
      try simp only [Act.put, List.setIfInBounds_toArray, List.set_cons_zero, List.set_cons_succ]
      refine wpAnyH_take (i := 7) (oi := ⟨some 22, _, _, _, _, _⟩) (v := ?vtc7) rfl (by kernel_rfl) (by kernel_rfl) (by kernel_rfl) (fun _ _ _ h => h) (Or.inl ⟨by rfl, ?ytc7⟩) (Fr.refl _ _) ?rtc7
      case ytc7 =>
        intro wq hSw
        (try dsimp only at hSw)
        first | (go_simp; done) | (go_simp; with_reducible rfl)
      try simp only [Act.put, List.setIfInBounds_toArray, List.set_cons_zero, List.set_cons_succ]
      refine wpAnyH_take (i := 8) (oi := ⟨some 23, _, _, _, _, _⟩) (v := ?vtc8) rfl (by kernel_rfl) (by kernel_rfl) (by kernel_rfl) (fun _ _ _ h => h) (Or.inl ⟨by rfl, ?ytc8⟩) (Fr.refl _ _) ?rtc8
      case ytc8 =>
        intro wq hSw
        (try dsimp only at hSw)
        have hq := (RR.out.fr ((Fr.of_below (Below.drew (Below.refl _ _))).trans hSw) (fun h => h) (fun _ _ _ _ h => h)).c1
        first | (go_simp; done) | (go_simp; with_reducible rfl)
      try simp only [Act.put, List.setIfInBounds_toArray, List.set_cons_zero, List.set_cons_succ]
      refine wpAnyH_ready (rs := [9]) (by kernel_rfl) (by simp) ?_
      refine AllReadyH.cons (o := ⟨some 24, _, _, _, _, _⟩) rfl (fun K hK => ?_) AllReadyH.nil
      go_simp
      refine (HG.out w.drew RR.out.sl.drew).mono ?_; rintro e' w2 ⟨rfl, hw2⟩
      obtain rfl : w.drew = w2 := hw2.symm
      have hfr : Fr (fun _ => False) w.drew w.drew := Fr.refl _ _
      go_wp2_with fail
      refine hK.out _ _ hfr (fun hHeld => ?_)
      clear hK K hHeld
      try simp only [Act.put, List.setIfInBounds_toArray, List.set_cons_zero, List.set_cons_succ]
      refine wpAnyH_re (S' := fun w' => Fr (fun _ => False) w.drew w') (fun w' h => hfr.trans h) ?_
      clear hfr
      refine wpAnyH_take (i := 10) (oi := ⟨some 14, _, _, _, _, _⟩) (v := ?vtc10) rfl (by kernel_rfl) (by kernel_rfl) (by kernel_rfl) (fun _ _ _ h => h) (Or.inl ⟨by rfl, ?ytc10⟩) (Fr.refl _ _) ?rtc10
      case ytc10 =>
        intro wq hSw
        (try dsimp only at hSw)
        first | (go_simp; done) | (go_simp; with_reducible rfl)
      try simp only [Act.put, List.setIfInBounds_toArray, List.set_cons_zero, List.set_cons_succ]
      refine wpAnyH_take (i := 11) (oi := ⟨some 25, _, _, _, _, _⟩) (v := ?vtc11) rfl (by kernel_rfl) (by kernel_rfl) (by kernel_rfl) (fun _ _ _ h => h) (Or.inl ⟨by rfl, ?ytc11⟩) (Fr.refl _ _) ?rtc11
      case ytc11 =>
        intro wq hSw
        (try dsimp only at hSw)
        first | (go_simp; done) | (go_simp; with_reducible rfl)
      try simp only [Act.put, List.setIfInBounds_toArray, List.set_cons_zero, List.set_cons_succ]
      refine wpAnyH_take (i := 12) (oi := ⟨some 26, _, _, _, _, _⟩) (v := ?vtc12) rfl (by kernel_rfl) (by kernel_rfl) (by kernel_rfl) (fun _ _ _ h => h) (Or.inl ⟨by rfl, ?ytc12⟩) (Fr.refl _ _) ?rtc12
      case ytc12 =>
        intro wq hSw
        (try dsimp only at hSw)
        first | (go_simp; done) | (go_simp; with_reducible rfl)
      try simp only [Act.put, List.setIfInBounds_toArray, List.set_cons_zero, List.set_cons_succ]
      refine wpAnyH_take (i := 13) (oi := ⟨some 27, _, _, _, _, _⟩) (v := ?vtc13) rfl (by kernel_rfl) (by kernel_rfl) (by kernel_rfl) (fun _ _ _ h => h) (Or.inl ⟨by rfl, ?ytc13⟩) (Fr.refl _ _) ?rtc13
      case ytc13 =>
        intro wq hSw
        (try dsimp only at hSw)
        first | (go_simp; done) | (go_simp; with_reducible rfl)
      try simp only [Act.put, List.setIfInBounds_toArray, List.set_cons_zero, List.set_cons_succ]
      refine wpAnyH_take (i := 14) (oi := ⟨some 5, _, _, _, _, _⟩) (v := ?vtc14) rfl (by kernel_rfl) (by kernel_rfl) (by kernel_rfl) (fun _ _ _ h => h) (Or.inl ⟨by rfl, ?ytc14⟩) (Fr.refl _ _) ?rtc14
      case ytc14 =>
        intro wq hSw
        (try dsimp only at hSw)
        first | (go_simp; done) | (go_simp; with_reducible rfl)
      try simp only [Act.put, List.setIfInBounds_toArray, List.set_cons_zero, List.set_cons_succ]
      refine wpAnyH_take (i := 15) (oi := ⟨some 6, _, _, _, _, _⟩) (v := ?vtc15) rfl (by kernel_rfl) (by kernel_rfl) (by kernel_rfl) (fun _ _ _ h => h) (Or.inl ⟨by rfl, ?ytc15⟩) (Fr.refl _ _) ?rtc15
      case ytc15 =>
        intro wq hSw
        (try dsimp only at hSw)
        first | (go_simp; done) | (go_simp; with_reducible rfl)
      try simp only [Act.put, List.setIfInBounds_toArray, List.set_cons_zero, List.set_cons_succ]
      refine wpAnyH_take (i := 16) (oi := ⟨some 7, _, _, _, _, _⟩) (v := ?vtc16) rfl (by kernel_rfl) (by kernel_rfl) (by kernel_rfl) (fun _ _ _ h => h) (Or.inl ⟨by rfl, ?ytc16⟩) (Fr.refl _ _) ?rtc16
      case ytc16 =>
        intro wq hSw
        (try dsimp only at hSw)
        first | (go_simp; done) | (go_simp; with_reducible rfl)
      try simp only [Act.put, List.setIfInBounds_toArray, List.set_cons_zero, List.set_cons_succ]
      refine wpAnyH_done (by kernel_rfl) ?_ _
      go_wp2_with fail
      go_ret
      exact ⟨rfl, (RD.out.set2 er).1, FD.out.trans (RD.out.set2 er).2⟩
  · have ht : tkG 0 get right (at_, fault) = (0, (at_, fault)) := by unfold tkG; rw [if_pos hf]
    rw [ht]
    have hfi : ¬ (fault : Int) = 0 := by omega
    clear ht h hk hg hr
    go_enter Tryd.func57, Tryd.ntmps57
    go_wp2_with fail
    go_ret
    exact ⟨rfl, RR.out, Fr.refl _ _⟩
theorem ftakeS (fg fp : Nat) (eg : ∀ args w, (callFunc fg args).run Tryd.prog w = .ok (.enter fg args) w) (ep : ∀ args w, (callFunc fp args).run Tryd.prog w = .ok (.enter fp args) w) (pv : Value) (get : Nat → ByteArray × Nat × Nat) (right : ByteArray → Bool) (R t g p : Nat) (A : Option Addr) (n c : Nat) (l : List UInt8) (s : Nat × Nat) (w : World) (h : Rdg w R A n c l s) (hk : Tk3 w t g p R (.func (.func fg) #[] #[]) (.func (.func fp) #[] #[pv]))
    (hg : ∀ w', Sl w' 1 A n c (cells l) → Calls Tryd.prog fg #[.slice A n c, .int .i64 (s.1 : Int)] w' fun e w'' => e = .returned (.tuple #[.string ((get s.1).1), .int .i64 ((get s.1).2.1 : Int), .int .i64 ((get s.1).2.2 : Int)]) ∧ w'' = w')
    (hr : ∀ x w', Fr (fun k => k = R) w w' → Calls Tryd.prog fp (#[.string (x), pv]) w' fun e w'' => e = .returned (.bool (right x)) ∧ w'' = w') :
    Calls Tryd.prog 59 #[.pointer (some ⟨t, 0, none⟩), .pointer (some ⟨g, 0, none⟩), .pointer (some ⟨p, 0, none⟩)] w
      fun e w' => e = .returned (.string ((tkG (⟨#[]⟩ : ByteArray) get right s).1)) ∧ Rdg w' R A n c l (tkG (⟨#[]⟩ : ByteArray) get right s).2 ∧ Fr (fun k => k = R) w w' := by
  obtain ⟨at_, fault⟩ := s
  have kt := hk.t.cell
  have r2 := h.c2
  have KK := Lib.hid hk
  have RR := Lib.hid h
  dsimp only at r2 hg
  by_cases hf : fault = 0
  · subst hf
    obtain ⟨x, q, er, hx⟩ : ∃ x q er, get at_ = (x, q, er) := ⟨_, _, _, rfl⟩
    have ht : tkG (⟨#[]⟩ : ByteArray) get right (at_, 0) = if er ≠ 0 then ((⟨#[]⟩ : ByteArray), (at_, er)) else if right x = false then ((⟨#[]⟩ : ByteArray), (at_, 3)) else (x, (q, 0)) := by unfold tkG; rw [if_neg (by simp)]; dsimp only; rw [hx]
    rw [ht]
    rw [hx] at hg
    dsimp only at hg
    have HG := Lib.hid hg
    have HR := Lib.hid hr
    have RD := Lib.hid (show Rdg w.drew R A n c l (at_, 0) from h.later (Below.drew (Below.refl _ _)))
    have KD := Lib.hid (show Tk3 w.drew t g p R (.func (.func fg) #[] #[]) (.func (.func fp) #[] #[pv]) from hk.later (Below.drew (Below.refl _ _)))
    have FD := Lib.hid (show Fr (fun k => k = R) w w.drew from Fr.of_below (Below.drew (Below.refl _ _)))
    have dp := KD.out.p.cell
    have dt := KD.out.t.cell
    have d1 := RD.out.c1
    have d2 := RD.out.c2
    have f1 := RD.out.free 1
    have f2 := RD.out.free 2
    clear h hk hg hr ht hx
    by_cases he : er = 0
    · subst he
      rw [if_neg (by simp)]
      cases hrx : right x
      · rw [if_pos rfl]
        have hrr := HR.out x w.drew FD.out
        rw [hrx] at hrr
        clear hrx
        go_enter Tryd.func59, Tryd.ntmps59
        go_wp2_with fail
        refine wp_region_held_drew (S := fun w' => Fr (fun _ => False) w.drew w') (by kernel_rfl) (Fr.refl _ _) (fun hHeld => ?_)
        clear hHeld
        refine wpAnyH_take (i := 0) (oi := ⟨some 15, _, _, _, _, _⟩) (v := ?vta0) rfl (by kernel_rfl) (by kernel_rfl) (by kernel_rfl) (fun _ _ _ h => h) (Or.inl ⟨by rfl, ?yta0⟩) (Fr.refl _ _) ?rta0
        case yta0 =>
          intro wq hSw
          (try dsimp only at hSw)
          have hq := (KK.out.fr ((Fr.of_below (Below.drew (Below.refl _ _))).trans hSw) (fun h => h) (fun h => h) (fun h => h)).g.cell
          first | (go_simp; done) | (go_simp; with_reducible rfl)
        try simp only [Act.put, List.setIfInBounds_toArray, List.set_cons_zero, List.set_cons_succ]
        refine wpAnyH_take (i := 1) (oi := ⟨some 16, _, _, _, _, _⟩) (v := ?vta1) rfl (by kernel_rfl) (by kernel_rfl) (by kernel_rfl) (fun _ _ _ h => h) (Or.inl ⟨by rfl, ?yta1⟩) (Fr.refl _ _) ?rta1
        case yta1 =>
          intro wq hSw
          (try dsimp only at hSw)
          have hq := (KK.out.fr ((Fr.of_below (Below.drew (Below.refl _ _))).trans hSw) (fun h => h) (fun h => h) (fun h => h)).t.cell
          first | (go_simp; done) | (go_simp; with_reducible rfl)
        try simp only [Act.put, List.setIfInBounds_toArray, List.set_cons_zero, List.set_cons_succ]
        refine wpAnyH_take (i := 2) (oi := ⟨some 17, _, _, _, _, _⟩) (v := ?vta2) rfl (by kernel_rfl) (by kernel_rfl) (by kernel_rfl) (fun _ _ _ h => h) (Or.inl ⟨by rfl, ?yta2⟩) (Fr.refl _ _) ?rta2
        case yta2 =>
          intro wq hSw
          (try dsimp only at hSw)
          first | (go_simp; done) | (go_simp; with_reducible rfl)
        try simp only [Act.put, List.setIfInBounds_toArray, List.set_cons_zero, List.set_cons_succ]
        refine wpAnyH_take (i := 3) (oi := ⟨some 18, _, _, _, _, _⟩) (v := ?vta3) rfl (by kernel_rfl) (by kernel_rfl) (by kernel_rfl) (fun _ _ _ h => h) (Or.inl ⟨by rfl, ?yta3⟩) (Fr.refl _ _) ?rta3
        case yta3 =>
          intro wq hSw
          (try dsimp only at hSw)
          first | (go_simp; done) | (go_simp; with_reducible rfl)
        try simp only [Act.put, List.setIfInBounds_toArray, List.set_cons_zero, List.set_cons_succ]
        refine wpAnyH_take (i := 4) (oi := ⟨some 19, _, _, _, _, _⟩) (v := ?vta4) rfl (by kernel_rfl) (by kernel_rfl) (by kernel_rfl) (fun _ _ _ h => h) (Or.inl ⟨by rfl, ?yta4⟩) (Fr.refl _ _) ?rta4
        case yta4 =>
          intro wq hSw
          (try dsimp only at hSw)
          have hq := (RR.out.fr ((Fr.of_below (Below.drew (Below.refl _ _))).trans hSw) (fun h => h) (fun _ _ _ _ h => h)).c0
          first | (go_simp; done) | (go_simp; with_reducible rfl)
        try simp only [Act.put, List.setIfInBounds_toArray, List.set_cons_zero, List.set_cons_succ]
        refine wpAnyH_take (i := 5) (oi := ⟨some 20, _, _, _, _, _⟩) (v := ?vta5) rfl (by kernel_rfl) (by kernel_rfl) (by kernel_rfl) (fun _ _ _ h => h) (Or.inl ⟨by rfl, ?yta5⟩) (Fr.refl _ _) ?rta5
        case yta5 =>
          intro wq hSw
          (try dsimp only at hSw)
          have hq := (KK.out.fr ((Fr.of_below (Below.drew (Below.refl _ _))).trans hSw) (fun h => h) (fun h => h) (fun h => h)).t.cell
          first | (go_simp; done) | (go_simp; with_reducible rfl)
        try simp only [Act.put, List.setIfInBounds_toArray, List.set_cons_zero, List.set_cons_succ]
        refine wpAnyH_take (i := 6) (oi := ⟨some 21, _, _, _, _, _⟩) (v := ?vta6) rfl (by kernel_rfl) (by kernel_rfl) (by kernel_rfl) (fun _ _ _ h => h) (Or.inl ⟨by rfl, ?yta6⟩) (Fr.refl _ _) ?rta6
        case yta6 =>
          intro wq hSw
          (try dsimp only at hSw)
          first | (go_simp; done) | (go_simp; with_reducible rfl)
        try simp only [Act.put, List.setIfInBounds_toArray, List.set_cons_zero, List.set_cons_succ]
        refine wpAnyH_take (i := 7) (oi := ⟨some 22, _, _, _, _, _⟩) (v := ?vta7) rfl (by kernel_rfl) (by kernel_rfl) (by kernel_rfl) (fun _ _ _ h => h) (Or.inl ⟨by rfl, ?yta7⟩) (Fr.refl _ _) ?rta7
        case yta7 =>
          intro wq hSw
          (try dsimp only at hSw)
          first | (go_simp; done) | (go_simp; with_reducible rfl)
        try simp only [Act.put, List.setIfInBounds_toArray, List.set_cons_zero, List.set_cons_succ]
        refine wpAnyH_take (i := 8) (oi := ⟨some 23, _, _, _, _, _⟩) (v := ?vta8) rfl (by kernel_rfl) (by kernel_rfl) (by kernel_rfl) (fun _ _ _ h => h) (Or.inl ⟨by rfl, ?yta8⟩) (Fr.refl _ _) ?rta8
        case yta8 =>
          intro wq hSw
          (try dsimp only at hSw)
          have hq := (RR.out.fr ((Fr.of_below (Below.drew (Below.refl _ _))).trans hSw) (fun h => h) (fun _ _ _ _ h => h)).c1
          first | (go_simp; done) | (go_simp; with_reducible rfl)
        try simp only [Act.put, List.setIfInBounds_toArray, List.set_cons_zero, List.set_cons_succ]
        refine wpAnyH_ready (rs := [9]) (by kernel_rfl) (by simp) ?_
        refine AllReadyH.cons (o := ⟨some 24, _, _, _, _, _⟩) rfl (fun K hK => ?_) AllReadyH.nil
        go_simp
        refine (HG.out w.drew RR.out.sl.drew).mono ?_; rintro e' w2 ⟨rfl, hw2⟩
        obtain rfl : w.drew = w2 := hw2.symm
        have hfr : Fr (fun _ => False) w.drew w.drew := Fr.refl _ _
        go_wp2_with fail
        refine hK.out _ _ hfr (fun hHeld => ?_)
        clear hK K hHeld
        try simp only [Act.put, List.setIfInBounds_toArray, List.set_cons_zero, List.set_cons_succ]
        refine wpAnyH_re (S' := fun w' => Fr (fun _ => False) w.drew w') (fun w' h => hfr.trans h) ?_
        clear hfr
        refine wpAnyH_take (i := 10) (oi := ⟨some 14, _, _, _, _, _⟩) (v := ?vta10) rfl (by kernel_rfl) (by kernel_rfl) (by kernel_rfl) (fun _ _ _ h => h) (Or.inl ⟨by rfl, ?yta10⟩) (Fr.refl _ _) ?rta10
        case yta10 =>
          intro wq hSw
          (try dsimp only at hSw)
          first | (go_simp; done) | (go_simp; with_reducible rfl)
        try simp only [Act.put, List.setIfInBounds_toArray, List.set_cons_zero, List.set_cons_succ]
        refine wpAnyH_take (i := 11) (oi := ⟨some 25, _, _, _, _, _⟩) (v := ?vta11) rfl (by kernel_rfl) (by kernel_rfl) (by kernel_rfl) (fun _ _ _ h => h) (Or.inl ⟨by rfl, ?yta11⟩) (Fr.refl _ _) ?rta11
        case yta11 =>
          intro wq hSw
          (try dsimp only at hSw)
          first | (go_simp; done) | (go_simp; with_reducible rfl)
        try simp only [Act.put, List.setIfInBounds_toArray, List.set_cons_zero, List.set_cons_succ]
        refine wpAnyH_take (i := 12) (oi := ⟨some 26, _, _, _, _, _⟩) (v := ?vta12) rfl (by kernel_rfl) (by kernel_rfl) (by kernel_rfl) (fun _ _ _ h => h) (Or.inl ⟨by rfl, ?yta12⟩) (Fr.refl _ _) ?rta12
        case yta12 =>
          intro wq hSw
          (try dsimp only at hSw)
          first | (go_simp; done) | (go_simp; with_reducible rfl)
        try simp only [Act.put, List.setIfInBounds_toArray, List.set_cons_zero, List.set_cons_succ]
        refine wpAnyH_take (i := 13) (oi := ⟨some 27, _, _, _, _, _⟩) (v := ?vta13) rfl (by kernel_rfl) (by kernel_rfl) (by kernel_rfl) (fun _ _ _ h => h) (Or.inl ⟨by rfl, ?yta13⟩) (Fr.refl _ _) ?rta13
        case yta13 =>
          intro wq hSw
          (try dsimp only at hSw)
          first | (go_simp; done) | (go_simp; with_reducible rfl)
        try simp only [Act.put, List.setIfInBounds_toArray, List.set_cons_zero, List.set_cons_succ]
        refine wpAnyH_take (i := 14) (oi := ⟨some 5, _, _, _, _, _⟩) (v := ?vta14) rfl (by kernel_rfl) (by kernel_rfl) (by kernel_rfl) (fun _ _ _ h => h) (Or.inl ⟨by rfl, ?yta14⟩) (Fr.refl _ _) ?rta14
        case yta14 =>
          intro wq hSw
          (try dsimp only at hSw)
          first | (go_simp; done) | (go_simp; with_reducible rfl)
        try simp only [Act.put, List.setIfInBounds_toArray, List.set_cons_zero, List.set_cons_succ]
        refine wpAnyH_take (i := 15) (oi := ⟨some 6, _, _, _, _, _⟩) (v := ?vta15) rfl (by kernel_rfl) (by kernel_rfl) (by kernel_rfl) (fun _ _ _ h => h) (Or.inl ⟨by rfl, ?yta15⟩) (Fr.refl _ _) ?rta15
        case yta15 =>
          intro wq hSw
          (try dsimp only at hSw)
          first | (go_simp; done) | (go_simp; with_reducible rfl)
        try simp only [Act.put, List.setIfInBounds_toArray, List.set_cons_zero, List.set_cons_succ]
        refine wpAnyH_take (i := 16) (oi := ⟨some 7, _, _, _, _, _⟩) (v := ?vta16) rfl (by kernel_rfl) (by kernel_rfl) (by kernel_rfl) (fun _ _ _ h => h) (Or.inl ⟨by rfl, ?yta16⟩) (Fr.refl _ _) ?rta16
        case yta16 =>
          intro wq hSw
          (try dsimp only at hSw)
          first | (go_simp; done) | (go_simp; with_reducible rfl)
        try simp only [Act.put, List.setIfInBounds_toArray, List.set_cons_zero, List.set_cons_succ]
        refine wpAnyH_done (by kernel_rfl) ?_ _
        go_wp2_with fail
        refine hrr.mono ?_; clear hrr; rintro e w3 ⟨rfl, hw3⟩
        obtain rfl : w.drew = w3 := hw3.symm
        go_wp2_with fail
        go_ret
        exact ⟨rfl, (RD.out.set2 3).1, FD.out.trans (RD.out.set2 3).2⟩
      · rw [if_neg (by simp)]
        have hrr := HR.out x w.drew FD.out
        rw [hrx] at hrr
        clear hrx
        go_enter Tryd.func59, Tryd.ntmps59
        go_wp2_with fail
        refine wp_region_held_drew (S := fun w' => Fr (fun _ => False) w.drew w') (by kernel_rfl) (Fr.refl _ _) (fun hHeld => ?_)
        clear hHeld
        refine wpAnyH_take (i := 0) (oi := ⟨some 15, _, _, _, _, _⟩) (v := ?vtb0) rfl (by kernel_rfl) (by kernel_rfl) (by kernel_rfl) (fun _ _ _ h => h) (Or.inl ⟨by rfl, ?ytb0⟩) (Fr.refl _ _) ?rtb0
        case ytb0 =>
          intro wq hSw
          (try dsimp only at hSw)
          have hq := (KK.out.fr ((Fr.of_below (Below.drew (Below.refl _ _))).trans hSw) (fun h => h) (fun h => h) (fun h => h)).g.cell
          first | (go_simp; done) | (go_simp; with_reducible rfl)
        try simp only [Act.put, List.setIfInBounds_toArray, List.set_cons_zero, List.set_cons_succ]
        refine wpAnyH_take (i := 1) (oi := ⟨some 16, _, _, _, _, _⟩) (v := ?vtb1) rfl (by kernel_rfl) (by kernel_rfl) (by kernel_rfl) (fun _ _ _ h => h) (Or.inl ⟨by rfl, ?ytb1⟩) (Fr.refl _ _) ?rtb1
        case ytb1 =>
          intro wq hSw
          (try dsimp only at hSw)
          have hq := (KK.out.fr ((Fr.of_below (Below.drew (Below.refl _ _))).trans hSw) (fun h => h) (fun h => h) (fun h => h)).t.cell
          first | (go_simp; done) | (go_simp; with_reducible rfl)
        try simp only [Act.put, List.setIfInBounds_toArray, List.set_cons_zero, List.set_cons_succ]
        refine wpAnyH_take (i := 2) (oi := ⟨some 17, _, _, _, _, _⟩) (v := ?vtb2) rfl (by kernel_rfl) (by kernel_rfl) (by kernel_rfl) (fun _ _ _ h => h) (Or.inl ⟨by rfl, ?ytb2⟩) (Fr.refl _ _) ?rtb2
        case ytb2 =>
          intro wq hSw
          (try dsimp only at hSw)
          first | (go_simp; done) | (go_simp; with_reducible rfl)
        try simp only [Act.put, List.setIfInBounds_toArray, List.set_cons_zero, List.set_cons_succ]
        refine wpAnyH_take (i := 3) (oi := ⟨some 18, _, _, _, _, _⟩) (v := ?vtb3) rfl (by kernel_rfl) (by kernel_rfl) (by kernel_rfl) (fun _ _ _ h => h) (Or.inl ⟨by rfl, ?ytb3⟩) (Fr.refl _ _) ?rtb3
        case ytb3 =>
          intro wq hSw
          (try dsimp only at hSw)
          first | (go_simp; done) | (go_simp; with_reducible rfl)
        try simp only [Act.put, List.setIfInBounds_toArray, List.set_cons_zero, List.set_cons_succ]
        refine wpAnyH_take (i := 4) (oi := ⟨some 19, _, _, _, _, _⟩) (v := ?vtb4) rfl (by kernel_rfl) (by kernel_rfl) (by kernel_rfl) (fun _ _ _ h => h) (Or.inl ⟨by rfl, ?ytb4⟩) (Fr.refl _ _) ?rtb4
        case ytb4 =>
          intro wq hSw
          (try dsimp only at hSw)
          have hq := (RR.out.fr ((Fr.of_below (Below.drew (Below.refl _ _))).trans hSw) (fun h => h) (fun _ _ _ _ h => h)).c0
          first | (go_simp; done) | (go_simp; with_reducible rfl)
        try simp only [Act.put, List.setIfInBounds_toArray, List.set_cons_zero, List.set_cons_succ]
        refine wpAnyH_take (i := 5) (oi := ⟨some 20, _, _, _, _, _⟩) (v := ?vtb5) rfl (by kernel_rfl) (by kernel_rfl) (by kernel_rfl) (fun _ _ _ h => h) (Or.inl ⟨by rfl, ?ytb5⟩) (Fr.refl _ _) ?rtb5
        case ytb5 =>
          intro wq hSw
          (try dsimp only at hSw)
          have hq := (KK.out.fr ((Fr.of_below (Below.drew (Below.refl _ _))).trans hSw) (fun h => h) (fun h => h) (fun h => h)).t.cell
          first | (go_simp; done) | (go_simp; with_reducible rfl)
        try simp only [Act.put, List.setIfInBounds_toArray, List.set_cons_zero, List.set_cons_succ]
        refine wpAnyH_take (i := 6) (oi := ⟨some 21, _, _, _, _, _⟩) (v := ?vtb6) rfl (by kernel_rfl) (by kernel_rfl) (by kernel_rfl) (fun _ _ _ h => h) (Or.inl ⟨by rfl, ?ytb6⟩) (Fr.refl _ _) ?rtb6
        case ytb6 =>
          intro wq hSw
          (try dsimp only at hSw)
          first | (go_simp; done) | (go_simp; with_reducible rfl)
        try simp only [Act.put, List.setIfInBounds_toArray, List.set_cons_zero, List.set_cons_succ]
        refine wpAnyH_take (i := 7) (oi := ⟨some 22, _, _, _, _, _⟩) (v := ?vtb7) rfl (by kernel_rfl) (by kernel_rfl) (by kernel_rfl) (fun _ _ _ h => h) (Or.inl ⟨by rfl, ?ytb7⟩) (Fr.refl _ _) ?rtb7
        case ytb7 =>
          intro wq hSw
          (try dsimp only at hSw)
          first | (go_simp; done) | (go_simp; with_reducible rfl)
        try simp only [Act.put, List.setIfInBounds_toArray, List.set_cons_zero, List.set_cons_succ]
        refine wpAnyH_take (i := 8) (oi := ⟨some 23, _, _, _, _, _⟩) (v := ?vtb8) rfl (by kernel_rfl) (by kernel_rfl) (by kernel_rfl) (fun _ _ _ h => h) (Or.inl ⟨by rfl, ?ytb8⟩) (Fr.refl _ _) ?rtb8
        case ytb8 =>
          intro wq hSw
          (try dsimp only at hSw)
          have hq := (RR.out.fr ((Fr.of_below (Below.drew (Below.refl _ _))).trans hSw) (fun h => h) (fun _ _ _ _ h => h)).c1
          first | (go_simp; done) | (go_simp; with_reducible rfl)
        try simp only [Act.put, List.setIfInBounds_toArray, List.set_cons_zero, List.set_cons_succ]
        refine wpAnyH_ready (rs := [9]) (by kernel_rfl) (by simp) ?_
        refine AllReadyH.cons (o := ⟨some 24, _, _, _, _, _⟩) rfl (fun K hK => ?_) AllReadyH.nil
        go_simp
        refine (HG.out w.drew RR.out.sl.drew).mono ?_; rintro e' w2 ⟨rfl, hw2⟩
        obtain rfl : w.drew = w2 := hw2.symm
        have hfr : Fr (fun _ => False) w.drew w.drew := Fr.refl _ _
        go_wp2_with fail
        refine hK.out _ _ hfr (fun hHeld => ?_)
        clear hK K hHeld
        try simp only [Act.put, List.setIfInBounds_toArray, List.set_cons_zero, List.set_cons_succ]
        refine wpAnyH_re (S' := fun w' => Fr (fun _ => False) w.drew w') (fun w' h => hfr.trans h) ?_
        clear hfr
        refine wpAnyH_take (i := 10) (oi := ⟨some 14, _, _, _, _, _⟩) (v := ?vtb10) rfl (by kernel_rfl) (by kernel_rfl) (by kernel_rfl) (fun _ _ _ h => h) (Or.inl ⟨by rfl, ?ytb10⟩) (Fr.refl _ _) ?rtb10
        case ytb10 =>
          intro wq hSw
          (try dsimp only at hSw)
          first | (go_simp; done) | (go_simp; with_reducible rfl)
        try simp only [Act.put, List.setIfInBounds_toArray, List.set_cons_zero, List.set_cons_succ]
        refine wpAnyH_take (i := 11) (oi := ⟨some 25, _, _, _, _, _⟩) (v := ?vtb11) rfl (by kernel_rfl) (by kernel_rfl) (by kernel_rfl) (fun _ _ _ h => h) (Or.inl ⟨by rfl, ?ytb11⟩) (Fr.refl _ _) ?rtb11
        case ytb11 =>
          intro wq hSw
          (try dsimp only at hSw)
          first | (go_simp; done) | (go_simp; with_reducible rfl)
        try simp only [Act.put, List.setIfInBounds_toArray, List.set_cons_zero, List.set_cons_succ]
        refine wpAnyH_take (i := 12) (oi := ⟨some 26, _, _, _, _, _⟩) (v := ?vtb12) rfl (by kernel_rfl) (by kernel_rfl) (by kernel_rfl) (fun _ _ _ h => h) (Or.inl ⟨by rfl, ?ytb12⟩) (Fr.refl _ _) ?rtb12
        case ytb12 =>
          intro wq hSw
          (try dsimp only at hSw)
          first | (go_simp; done) | (go_simp; with_reducible rfl)
        try simp only [Act.put, List.setIfInBounds_toArray, List.set_cons_zero, List.set_cons_succ]
        refine wpAnyH_take (i := 13) (oi := ⟨some 27, _, _, _, _, _⟩) (v := ?vtb13) rfl (by kernel_rfl) (by kernel_rfl) (by kernel_rfl) (fun _ _ _ h => h) (Or.inl ⟨by rfl, ?ytb13⟩) (Fr.refl _ _) ?rtb13
        case ytb13 =>
          intro wq hSw
          (try dsimp only at hSw)
          first | (go_simp; done) | (go_simp; with_reducible rfl)
        try simp only [Act.put, List.setIfInBounds_toArray, List.set_cons_zero, List.set_cons_succ]
        refine wpAnyH_take (i := 14) (oi := ⟨some 5, _, _, _, _, _⟩) (v := ?vtb14) rfl (by kernel_rfl) (by kernel_rfl) (by kernel_rfl) (fun _ _ _ h => h) (Or.inl ⟨by rfl, ?ytb14⟩) (Fr.refl _ _) ?rtb14
        case ytb14 =>
          intro wq hSw
          (try dsimp only at hSw)
          first | (go_simp; done) | (go_simp; with_reducible rfl)
        try simp only [Act.put, List.setIfInBounds_toArray, List.set_cons_zero, List.set_cons_succ]
        refine wpAnyH_take (i := 15) (oi := ⟨some 6, _, _, _, _, _⟩) (v := ?vtb15) rfl (by kernel_rfl) (by kernel_rfl) (by kernel_rfl) (fun _ _ _ h => h) (Or.inl ⟨by rfl, ?ytb15⟩) (Fr.refl _ _) ?rtb15
        case ytb15 =>
          intro wq hSw
          (try dsimp only at hSw)
          first | (go_simp; done) | (go_simp; with_reducible rfl)
        try simp only [Act.put, List.setIfInBounds_toArray, List.set_cons_zero, List.set_cons_succ]
        refine wpAnyH_take (i := 16) (oi := ⟨some 7, _, _, _, _, _⟩) (v := ?vtb16) rfl (by kernel_rfl) (by kernel_rfl) (by kernel_rfl) (fun _ _ _ h => h) (Or.inl ⟨by rfl, ?ytb16⟩) (Fr.refl _ _) ?rtb16
        case ytb16 =>
          intro wq hSw
          (try dsimp only at hSw)
          first | (go_simp; done) | (go_simp; with_reducible rfl)
        try simp only [Act.put, List.setIfInBounds_toArray, List.set_cons_zero, List.set_cons_succ]
        refine wpAnyH_done (by kernel_rfl) ?_ _
        go_wp2_with fail
        refine hrr.mono ?_; clear hrr; rintro e w3 ⟨rfl, hw3⟩
        obtain rfl : w.drew = w3 := hw3.symm
        go_wp2_with fail
        go_ret
        exact ⟨rfl, (RD.out.set1 q).1, FD.out.trans (RD.out.set1 q).2⟩
    · rw [if_pos he]
      have hei : ¬ (er : Int) = 0 := by omega
      go_enter Tryd.func59, Tryd.ntmps59
      go_wp2_with fail
      refine wp_region_held_drew (S := fun w' => Fr (fun _ => False) w.drew w') (by kernel_rfl) (Fr.refl _ _) (fun hHeld => ?_)
      clear hHeld
      refine wpAnyH_take (i := 0) (oi := ⟨some 15, _, _, _, _, _⟩) (v := ?vtc0) rfl (by kernel_rfl) (by kernel_rfl) (by kernel_rfl) (fun _ _ _ h => h) (Or.inl ⟨by rfl, ?ytc0⟩) (Fr.refl _ _) ?rtc0
      case ytc0 =>
        intro wq hSw
        (try dsimp only at hSw)
        have hq := (KK.out.fr ((Fr.of_below (Below.drew (Below.refl _ _))).trans hSw) (fun h => h) (fun h => h) (fun h => h)).g.cell
        first | (go_simp; done) | (go_simp; with_reducible rfl)
      try simp only [Act.put, List.setIfInBounds_toArray, List.set_cons_zero, List.set_cons_succ]
      refine wpAnyH_take (i := 1) (oi := ⟨some 16, _, _, _, _, _⟩) (v := ?vtc1) rfl (by kernel_rfl) (by kernel_rfl) (by kernel_rfl) (fun _ _ _ h => h) (Or.inl ⟨by rfl, ?ytc1⟩) (Fr.refl _ _) ?rtc1
      case ytc1 =>
        intro wq hSw
        (try dsimp only at hSw)
        have hq := (KK.out.fr ((Fr.of_below (Below.drew (Below.refl _ _))).trans hSw) (fun h => h) (fun h => h) (fun h => h)).t.cell
        first | (go_simp; done) | (go_simp; with_reducible rfl)
      try simp only [Act.put, List.setIfInBounds_toArray, List.set_cons_zero, List.set_cons_succ]
      refine wpAnyH_take (i := 2) (oi := ⟨some 17, _, _, _, _, _⟩) (v := ?vtc2) rfl (by kernel_rfl) (by kernel_rfl) (by kernel_rfl) (fun _ _ _ h => h) (Or.inl ⟨by rfl, ?ytc2⟩) (Fr.refl _ _) ?rtc2
      case ytc2 =>
        intro wq hSw
        (try dsimp only at hSw)
        first | (go_simp; done) | (go_simp; with_reducible rfl)
      try simp only [Act.put, List.setIfInBounds_toArray, List.set_cons_zero, List.set_cons_succ]
      refine wpAnyH_take (i := 3) (oi := ⟨some 18, _, _, _, _, _⟩) (v := ?vtc3) rfl (by kernel_rfl) (by kernel_rfl) (by kernel_rfl) (fun _ _ _ h => h) (Or.inl ⟨by rfl, ?ytc3⟩) (Fr.refl _ _) ?rtc3
      case ytc3 =>
        intro wq hSw
        (try dsimp only at hSw)
        first | (go_simp; done) | (go_simp; with_reducible rfl)
      try simp only [Act.put, List.setIfInBounds_toArray, List.set_cons_zero, List.set_cons_succ]
      refine wpAnyH_take (i := 4) (oi := ⟨some 19, _, _, _, _, _⟩) (v := ?vtc4) rfl (by kernel_rfl) (by kernel_rfl) (by kernel_rfl) (fun _ _ _ h => h) (Or.inl ⟨by rfl, ?ytc4⟩) (Fr.refl _ _) ?rtc4
      case ytc4 =>
        intro wq hSw
        (try dsimp only at hSw)
        have hq := (RR.out.fr ((Fr.of_below (Below.drew (Below.refl _ _))).trans hSw) (fun h => h) (fun _ _ _ _ h => h)).c0
        first | (go_simp; done) | (go_simp; with_reducible rfl)
      try simp only [Act.put, List.setIfInBounds_toArray, List.set_cons_zero, List.set_cons_succ]
      refine wpAnyH_take (i := 5) (oi := ⟨some 20, _, _, _, _, _⟩) (v := ?vtc5) rfl (by kernel_rfl) (by kernel_rfl) (by kernel_rfl) (fun _ _ _ h => h) (Or.inl ⟨by rfl, ?ytc5⟩) (Fr.refl _ _) ?rtc5
      case ytc5 =>
        intro wq hSw
        (try dsimp only at hSw)
        have hq := (KK.out.fr ((Fr.of_below (Below.drew (Below.refl _ _))).trans hSw) (fun h => h) (fun h => h) (fun h => h)).t.cell
        first | (go_simp; done) | (go_simp; with_reducible rfl)
      try simp only [Act.put, List.setIfInBounds_toArray, List.set_cons_zero, List.set_cons_succ]
      refine wpAnyH_take (i := 6) (oi := ⟨some 21, _, _, _, _, _⟩) (v := ?vtc6) rfl (by kernel_rfl) (by kernel_rfl) (by kernel_rfl) (fun _ _ _ h => h) (Or.inl ⟨by rfl, ?ytc6⟩) (Fr.refl _ _) ?rtc6
      case ytc6 =>
        intro wq hSw
        (try dsimp only at hSw)
        first | (go_simp; done) | (go_simp; with_reducible rfl)
      try simp only [Act.put, List.setIfInBounds_toArray, List.set_cons_zero, List.set_cons_succ]
      refine wpAnyH_take (i := 7) (oi := ⟨some 22, _, _, _, _, _⟩) (v := ?vtc7) rfl (by kernel_rfl) (by kernel_rfl) (by kernel_rfl) (fun _ _ _ h => h) (Or.inl ⟨by rfl, ?ytc7⟩) (Fr.refl _ _) ?rtc7
      case ytc7 =>
        intro wq hSw
        (try dsimp only at hSw)
        first | (go_simp; done) | (go_simp; with_reducible rfl)
      try simp only [Act.put, List.setIfInBounds_toArray, List.set_cons_zero, List.set_cons_succ]
      refine wpAnyH_take (i := 8) (oi := ⟨some 23, _, _, _, _, _⟩) (v := ?vtc8) rfl (by kernel_rfl) (by kernel_rfl) (by kernel_rfl) (fun _ _ _ h => h) (Or.inl ⟨by rfl, ?ytc8⟩) (Fr.refl _ _) ?rtc8
      case ytc8 =>
        intro wq hSw
        (try dsimp only at hSw)
        have hq := (RR.out.fr ((Fr.of_below (Below.drew (Below.refl _ _))).trans hSw) (fun h => h) (fun _ _ _ _ h => h)).c1
        first | (go_simp; done) | (go_simp; with_reducible rfl)
      try simp only [Act.put, List.setIfInBounds_toArray, List.set_cons_zero, List.set_cons_succ]
      refine wpAnyH_ready (rs := [9]) (by kernel_rfl) (by simp) ?_
      refine AllReadyH.cons (o := ⟨some 24, _, _, _, _, _⟩) rfl (fun K hK => ?_) AllReadyH.nil
      go_simp
      refine (HG.out w.drew RR.out.sl.drew).mono ?_; rintro e' w2 ⟨rfl, hw2⟩
      obtain rfl : w.drew = w2 := hw2.symm
      have hfr : Fr (fun _ => False) w.drew w.drew := Fr.refl _ _
      go_wp2_with fail
      refine hK.out _ _ hfr (fun hHeld => ?_)
      clear hK K hHeld
      try simp only [Act.put, List.setIfInBounds_toArray, List.set_cons_zero, List.set_cons_succ]
      refine wpAnyH_re (S' := fun w' => Fr (fun _ => False) w.drew w') (fun w' h => hfr.trans h) ?_
      clear hfr
      refine wpAnyH_take (i := 10) (oi := ⟨some 14, _, _, _, _, _⟩) (v := ?vtc10) rfl (by kernel_rfl) (by kernel_rfl) (by kernel_rfl) (fun _ _ _ h => h) (Or.inl ⟨by rfl, ?ytc10⟩) (Fr.refl _ _) ?rtc10
      case ytc10 =>
        intro wq hSw
        (try dsimp only at hSw)
        first | (go_simp; done) | (go_simp; with_reducible rfl)
      try simp only [Act.put, List.setIfInBounds_toArray, List.set_cons_zero, List.set_cons_succ]
      refine wpAnyH_take (i := 11) (oi := ⟨some 25, _, _, _, _, _⟩) (v := ?vtc11) rfl (by kernel_rfl) (by kernel_rfl) (by kernel_rfl) (fun _ _ _ h => h) (Or.inl ⟨by rfl, ?ytc11⟩) (Fr.refl _ _) ?rtc11
      case ytc11 =>
        intro wq hSw
        (try dsimp only at hSw)
        first | (go_simp; done) | (go_simp; with_reducible rfl)
      try simp only [Act.put, List.setIfInBounds_toArray, List.set_cons_zero, List.set_cons_succ]
      refine wpAnyH_take (i := 12) (oi := ⟨some 26, _, _, _, _, _⟩) (v := ?vtc12) rfl (by kernel_rfl) (by kernel_rfl) (by kernel_rfl) (fun _ _ _ h => h) (Or.inl ⟨by rfl, ?ytc12⟩) (Fr.refl _ _) ?rtc12
      case ytc12 =>
        intro wq hSw
        (try dsimp only at hSw)
        first | (go_simp; done) | (go_simp; with_reducible rfl)
      try simp only [Act.put, List.setIfInBounds_toArray, List.set_cons_zero, List.set_cons_succ]
      refine wpAnyH_take (i := 13) (oi := ⟨some 27, _, _, _, _, _⟩) (v := ?vtc13) rfl (by kernel_rfl) (by kernel_rfl) (by kernel_rfl) (fun _ _ _ h => h) (Or.inl ⟨by rfl, ?ytc13⟩) (Fr.refl _ _) ?rtc13
      case ytc13 =>
        intro wq hSw
        (try dsimp only at hSw)
        first | (go_simp; done) | (go_simp; with_reducible rfl)
      try simp only [Act.put, List.setIfInBounds_toArray, List.set_cons_zero, List.set_cons_succ]
      refine wpAnyH_take (i := 14) (oi := ⟨some 5, _, _, _, _, _⟩) (v := ?vtc14) rfl (by kernel_rfl) (by kernel_rfl) (by kernel_rfl) (fun _ _ _ h => h) (Or.inl ⟨by rfl, ?ytc14⟩) (Fr.refl _ _) ?rtc14
      case ytc14 =>
        intro wq hSw
        (try dsimp only at hSw)
        first | (go_simp; done) | (go_simp; with_reducible rfl)
      try simp only [Act.put, List.setIfInBounds_toArray, List.set_cons_zero, List.set_cons_succ]
      refine wpAnyH_take (i := 15) (oi := ⟨some 6, _, _, _, _, _⟩) (v := ?vtc15) rfl (by kernel_rfl) (by kernel_rfl) (by kernel_rfl) (fun _ _ _ h => h) (Or.inl ⟨by rfl, ?ytc15⟩) (Fr.refl _ _) ?rtc15
      case ytc15 =>
        intro wq hSw
        (try dsimp only at hSw)
        first | (go_simp; done) | (go_simp; with_reducible rfl)
      try simp only [Act.put, List.setIfInBounds_toArray, List.set_cons_zero, List.set_cons_succ]
      refine wpAnyH_take (i := 16) (oi := ⟨some 7, _, _, _, _, _⟩) (v := ?vtc16) rfl (by kernel_rfl) (by kernel_rfl) (by kernel_rfl) (fun _ _ _ h => h) (Or.inl ⟨by rfl, ?ytc16⟩) (Fr.refl _ _) ?rtc16
      case ytc16 =>
        intro wq hSw
        (try dsimp only at hSw)
        first | (go_simp; done) | (go_simp; with_reducible rfl)
      try simp only [Act.put, List.setIfInBounds_toArray, List.set_cons_zero, List.set_cons_succ]
      refine wpAnyH_done (by kernel_rfl) ?_ _
      go_wp2_with fail
      go_ret
      exact ⟨rfl, (RD.out.set2 er).1, FD.out.trans (RD.out.set2 er).2⟩
  · have ht : tkG (⟨#[]⟩ : ByteArray) get right (at_, fault) = ((⟨#[]⟩ : ByteArray), (at_, fault)) := by unfold tkG; rw [if_pos hf]
    rw [ht]
    have hfi : ¬ (fault : Int) = 0 := by omega
    clear ht h hk hg hr
    go_enter Tryd.func59, Tryd.ntmps59
    go_wp2_with fail
    go_ret
    exact ⟨rfl, RR.out, Fr.refl _ _⟩
end Go.Proofs.YtpijfghklgmefaaDoor
