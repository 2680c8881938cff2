/-
  Contracts of the document's Mul and Turned. No condition. (Written by gen_mea.py.)
-/
import Derived.Test.YtccnoflgbopjlaaMdv
import Derived.Test.YtccnoflgbopjlaaFdh
namespace Go.Proofs.Ytccnoflgbopjlaa
open Go.RowKit Go.Proofs
set_option linter.unusedVariables false

/-- What a call of the document's answers that makes a matrix and an error. -/
def RetN (R : M3 → Int → Prop) (w : World) (e : Ending) (w' : World) : Prop := (∃ (m : M3) (A : Option Addr) (cp : Nat) (x : Int), e = .returned (.tuple #[m.v A cp, .int .i64 x]) ∧ Grow w' w.heap.size A m.l.length cp m.l ∧ R m x) ∧ Below w.heap.size w w'
theorem atR_in {m : M3} {R C : Nat} {f : Mx} (h : m.Is R C f) {i j : Nat} (hi : i < R) (hj : j < C) : atR m.r m.c m.l.length m.l (i : Int) (j : Int) = mx C m.l i j := by
  have hr := h.r; have hc := h.c
  rw [atR, if_pos ⟨h.ok, by omega, by omega, by omega, by omega⟩, mx, hc]
  congr 1

/-- A world of the document's Mul in which the boxes lie. -/
structure RmAt (w0 w : World) (a b : M3) (Pa Pb : Option Addr) (p1 p2 : Nat) : Prop where
  below : Below w0.heap.size w0 w
  size : w0.heap.size + 3 ≤ w.heap.size
  b0 : w.heap[w0.heap.size]? = some (a.box Pa p1)
  b1 : w.heap[w0.heap.size + 1]? = some (b.box Pb p2)
  b2 : w.heap[w0.heap.size + 1 + 1]? = some box0
section
variable {w0 w w' : World} {a b : M3} {Pa Pb : Option Addr} {p1 p2 : Nat}
theorem RmAt.later (h : RmAt w0 w a b Pa Pb p1 p2) (hb : Below w.heap.size w w') : RmAt w0 w' a b Pa Pb p1 p2 :=
  ⟨h.below.trans (hb.mono h.below.size), Nat.le_trans h.size hb.size, (hb.block _ (block_lt h.b0)).trans h.b0, (hb.block _ (block_lt h.b1)).trans h.b1, (hb.block _ (block_lt h.b2)).trans h.b2⟩
theorem RmAt.fr {g : Nat} (h : RmAt w0 w a b Pa Pb p1 p2) (hf : Fr (fun k => k = g) w w') (hg : w0.heap.size + 3 ≤ g) : RmAt w0 w' a b Pa Pb p1 p2 :=
  ⟨h.below.trans (hf.below h.below.size (fun k hk => by have hk : k = g := hk; omega)), Nat.le_trans h.size hf.size, hf.row_some h.b0 (by show ¬ _ = g; omega), hf.row_some h.b1 (by show ¬ _ = g; omega), hf.row_some h.b2 (by show ¬ _ = g; omega)⟩
theorem RmAt.start (w : World) (a b : M3) (Pa Pb : Option Addr) (p1 p2 : Nat) : RmAt w (((w.alloc (a.box Pa p1)).alloc (b.box Pb p2)).alloc box0) a b Pa Pb p1 p2 := by
  refine ⟨(((Below.refl _ _).alloc (Nat.le_refl _) _).alloc (by simp) _).alloc (by simp; omega) _, by simp, (Below.heap_alloc _ _ _ (by simp; omega)).trans (alloc2_old w _ _), (Below.heap_alloc _ _ _ (by simp)).trans (alloc2_new w _ _), ?_⟩
  have := alloc2_new (w.alloc (a.box Pa p1)) (b.box Pb p2) box0
  rwa [show (w.alloc (a.box Pa p1)).heap.size + 1 = w.heap.size + 1 + 1 from by simp] at this
end

set_option maxRecDepth 20000 in
set_option maxHeartbeats 1600000 in
theorem rmm_no (a b : M3) (Pa Pb : Option Addr) (p1 p2 : Nat) (w : World) (hn : a.l.length ≤ maxLen) (hn' : b.l.length ≤ maxLen) (hno : ¬ (a.ok = true ∧ b.ok = true ∧ a.c = b.r)) :
    Calls Try.prog 22 #[.agg #[.int .i64 a.r, .int .i64 a.c, .slice Pa a.l.length p1], .agg #[.int .i64 b.r, .int .i64 b.c, .slice Pb b.l.length p2]] w fun e w' => e = .returned (NoMx 2) ∧ Below w.heap.size w w' := by
  have I0 := Lib.hid (RmAt.start w a b Pa Pb p1 p2)
  have Hno := Lib.hid hno; clear hno
  by_cases h1 : rightB a.r a.c a.l.length = true
  · by_cases h2 : rightB b.r b.c b.l.length = true
    · have h3 : ¬ a.c = b.r := fun e => Hno.out ⟨h1, h2, e⟩
      have hd : (a.c != b.r) = true := by simpa using h3
      have H1 := Lib.hid h1; clear h1
      have H2 := Lib.hid h2; clear h2
      go_enter Try.func22, Try.ntmps22
      go_wp2_with fail
      have hh := rright_any a.r a.c Pa a.l.length p1 hn (((w.alloc (a.box Pa p1)).alloc (b.box Pb p2)).alloc box0)
      refine hh.mono ?_; clear hh; rintro e w2 ⟨rfl, hb⟩
      rw [H1.out]
      have I1 := Lib.hid (I0.out.later hb); clear hb
      have b0 := boxM_0 I1.out.b1; have b1 := boxM_1 I1.out.b1; have b2 := boxM_2 I1.out.b1
      go_wp2_with fail
      have hh := rright_any b.r b.c Pb b.l.length p2 hn' w2
      refine hh.mono ?_; clear hh; rintro e w3 ⟨rfl, hb⟩
      rw [H2.out]
      have I2 := Lib.hid (I1.out.later hb); clear hb b0 b1 b2
      have a1 := boxM_1 I2.out.b0
      have b0 := boxM_0 I2.out.b1
      have x0 := box0_0 I2.out.b2; have x1 := box0_1 I2.out.b2; have x2 := box0_2 I2.out.b2
      have y0 := box0_free I2.out.b2 0; have y1 := box0_free I2.out.b2 1; have y2 := box0_free I2.out.b2 2
      go_wp2_with fail
      refine bodyPost_ret (results_cell_pair Try.results22 _ _ (w.heap.size + 1 + 1) 24 _ (0, 0) _ rfl (box0_set I2.out.b2) Try.underlying24 rfl size_matrix) rfl ?_
      have hq := box0_fr w3 (w.heap.size + 1 + 1) 0 0 none 0 0
      exact ⟨rfl, I2.out.below.trans (hq.below I2.out.below.size (fun k hk => by have hk : k = w.heap.size + 1 + 1 := hk; omega))⟩
    · have h2f : rightB b.r b.c b.l.length = false := by simpa using h2
      have H1 := Lib.hid h1; clear h1
      have H2 := Lib.hid h2f; clear h2 h2f
      go_enter Try.func22, Try.ntmps22
      go_wp2_with fail
      have hh := rright_any a.r a.c Pa a.l.length p1 hn (((w.alloc (a.box Pa p1)).alloc (b.box Pb p2)).alloc box0)
      refine hh.mono ?_; clear hh; rintro e w2 ⟨rfl, hb⟩
      rw [H1.out]
      have I1 := Lib.hid (I0.out.later hb); clear hb
      have b0 := boxM_0 I1.out.b1; have b1 := boxM_1 I1.out.b1; have b2 := boxM_2 I1.out.b1
      go_wp2_with fail
      have hh := rright_any b.r b.c Pb b.l.length p2 hn' w2
      refine hh.mono ?_; clear hh; rintro e w3 ⟨rfl, hb⟩
      rw [H2.out]
      have I2 := Lib.hid (I1.out.later hb); clear hb b0 b1 b2
      have x0 := box0_0 I2.out.b2; have x1 := box0_1 I2.out.b2; have x2 := box0_2 I2.out.b2
      have y0 := box0_free I2.out.b2 0; have y1 := box0_free I2.out.b2 1; have y2 := box0_free I2.out.b2 2
      go_wp2_with fail
      refine bodyPost_ret (results_cell_pair Try.results22 _ _ (w.heap.size + 1 + 1) 24 _ (0, 0) _ rfl (box0_set I2.out.b2) Try.underlying24 rfl size_matrix) rfl ?_
      have hq := box0_fr w3 (w.heap.size + 1 + 1) 0 0 none 0 0
      exact ⟨rfl, I2.out.below.trans (hq.below I2.out.below.size (fun k hk => by have hk : k = w.heap.size + 1 + 1 := hk; omega))⟩
  · have h1f : rightB a.r a.c a.l.length = false := by simpa using h1
    have H1 := Lib.hid h1f; clear h1 h1f
    go_enter Try.func22, Try.ntmps22
    go_wp2_with fail
    have hh := rright_any a.r a.c Pa a.l.length p1 hn (((w.alloc (a.box Pa p1)).alloc (b.box Pb p2)).alloc box0)
    refine hh.mono ?_; clear hh; rintro e w2 ⟨rfl, hb⟩
    rw [H1.out]
    have I2 := Lib.hid (I0.out.later hb); clear hb
    have x0 := box0_0 I2.out.b2; have x1 := box0_1 I2.out.b2; have x2 := box0_2 I2.out.b2
    have y0 := box0_free I2.out.b2 0; have y1 := box0_free I2.out.b2 1; have y2 := box0_free I2.out.b2 2
    go_wp2_with fail
    refine bodyPost_ret (results_cell_pair Try.results22 _ _ (w.heap.size + 1 + 1) 24 _ (0, 0) _ rfl (box0_set I2.out.b2) Try.underlying24 rfl size_matrix) rfl ?_
    have hq := box0_fr w2 (w.heap.size + 1 + 1) 0 0 none 0 0
    exact ⟨rfl, I2.out.below.trans (hq.below I2.out.below.size (fun k hk => by have hk : k = w.heap.size + 1 + 1 := hk; omega))⟩

/-- What the loops of the document's Mul keep: its variable holds the first q numbers. -/
structure RmIn (w0 w : World) (a b : M3) (Pa Pb : Option Addr) (p1 p2 : Nat) (bm q : Nat) (A : Option Addr) (c : Nat) (l : List UInt8) : Prop where
  at_ : RmAt w0 w a b Pa Pb p1 p2
  hi : w0.heap.size + 3 ≤ bm
  m : w.heap[bm]? = some (boxM a.r b.c A q c)
  grow : Grow w (bm + 1) A q c (l.take q)
theorem RmIn.later {w0 w w' : World} {a b : M3} {Pa Pb : Option Addr} {p1 p2 : Nat} {bm q : Nat} {A : Option Addr} {c : Nat} {l : List UInt8} (h : RmIn w0 w a b Pa Pb p1 p2 bm q A c l) (hb : Below w.heap.size w w') : RmIn w0 w' a b Pa Pb p1 p2 bm q A c l :=
  ⟨h.at_.later hb, h.hi, (hb.block _ (block_lt h.m)).trans h.m, h.grow.below hb⟩
/-- One more number, appended and stored. -/
theorem RmIn.more {w0 w w1 w2 : World} {a b : M3} {Pa Pb : Option Addr} {p1 p2 : Nat} {bm q : Nat} {A A' : Option Addr} {c c' : Nat} {l : List UInt8} {x : UInt8} (h : RmIn w0 w a b Pa Pb p1 p2 bm q A c l) (h1 : Below w.heap.size w w1)
    (ho : Own w2 (bm + 1) 5 1 A' (q + 1) c' (cells (l.take q) ++ cells [x])) (hb : Below (bm + 1) w1 w2) (hrow : w2.ownsRow (bm + 1) 5 1 (.slice A' (q + 1) c') (q + 1) (cells (l.take q) ++ cells [x])) (hx : l.take q ++ [x] = l.take (q + 1)) :
    RmIn w0 (w2.setCell ⟨bm, 2, none⟩ (.slice A' (q + 1) c')) a b Pa Pb p1 p2 bm (q + 1) A' c' l := by
  have hbm := block_lt h.m
  have h2 : Below (bm + 1) w w2 := (h1.mono (by omega)).trans hb
  have hi := h.hi
  have hq : Fr (fun k => k = bm) w2 (w2.setCell ⟨bm, 2, none⟩ (.slice A' (q + 1) c')) := Fr.setCell (S := fun k => k = bm) (Fr.refl _ _) (.inr rfl) _
  have hg : Grow w2 (bm + 1) A' (q + 1) c' (l.take (q + 1)) := by
    rw [← hx]
    exact ⟨by rw [cells_append]; exact ho, fun _ => by rw [cells_append]; exact hrow⟩
  have hm2 := (h2.block bm (by omega)).trans h.m
  have hat : RmAt w0 w2 a b Pa Pb p1 p2 := ⟨h.at_.below.trans (h2.mono (by omega)), by have := h.at_.size; have := h2.size; omega, (h2.block _ (by omega)).trans h.at_.b0, (h2.block _ (by omega)).trans h.at_.b1, (h2.block _ (by omega)).trans h.at_.b2⟩
  refine ⟨hat.fr hq hi, hi, ?_, hg.frG hq (Nat.lt_succ_self _)⟩
  rw [heap_setCell_same _ _ _ _ _ _ hm2]
  rfl

set_option maxRecDepth 20000 in
set_option maxHeartbeats 6400000 in
theorem rmm_yes (a b : M3) (Pa Pb : Option Addr) (p1 p2 : Nat) (w : World) (s1 : Sl w 1 Pa a.l.length p1 (cells a.l)) (s2 : Sl w 1 Pb b.l.length p2 (cells b.l)) (R D C : Nat) (hA : a.Is R D (mx D a.l)) (hB : b.Is D C (mx C b.l)) :
    Calls Try.prog 22 #[.agg #[.int .i64 a.r, .int .i64 a.c, .slice Pa a.l.length p1], .agg #[.int .i64 b.r, .int .i64 b.c, .slice Pb b.l.length p2]] w (RetN (fun o x => o = M3.of R C (mm D (mx D a.l) (mx C b.l)) ∧ x = 0) w) := by
  have l1 := s1.lim
  have l2 := s2.lim
  have I0 := Lib.hid (RmAt.start w a b Pa Pb p1 p2)
  have g1 := hA.r; have g2 := hA.c; have g3 := hB.r; have g4 := hB.c
  have r1 := hA.r1; have r2 := hA.r2; have d1 := hA.c1; have d2 := hA.c2; have c1 := hB.c1; have c2 := hB.c2
  have e1 := Lib.hid (show rightB a.r a.c a.l.length = true from hA.ok)
  have e2 := Lib.hid (show rightB b.r b.c b.l.length = true from hB.ok)
  have K1 := Lib.hid s1; clear s1
  have K2 := Lib.hid s2; clear s2
  have hdc : (a.c != b.r) = false := by rw [g2, g3]; simp
  have hRC : R * C ≤ 255 * 255 := Nat.mul_le_mul r2 c2
  have Hg := Lib.hid (And.intro g1 (And.intro g2 (And.intro g3 g4)))
  have HA := Lib.hid hA; clear hA
  have HB := Lib.hid hB; clear hB
  clear g1 g2 g3 g4
  obtain ⟨l, hl⟩ : ∃ l, l = tabL R C (mm D (mx D a.l) (mx C b.l)) := ⟨_, rfl⟩
  have Hl := Lib.hid hl; clear hl
  go_enter Try.func22, Try.ntmps22
  go_wp2_with fail
  have hh := rright_any a.r a.c Pa a.l.length p1 l1 (((w.alloc (a.box Pa p1)).alloc (b.box Pb p2)).alloc box0)
  refine hh.mono ?_; clear hh; rintro e w2 ⟨rfl, hb⟩
  rw [e1.out]
  have I1 := Lib.hid (I0.out.later hb); clear hb I0
  have b0 := boxM_0 I1.out.b1; have b1 := boxM_1 I1.out.b1; have b2 := boxM_2 I1.out.b1
  go_wp2_with fail
  have hh := rright_any b.r b.c Pb b.l.length p2 l2 w2
  refine hh.mono ?_; clear hh; rintro e w3 ⟨rfl, hb⟩
  rw [e2.out]
  have I2 := Lib.hid (I1.out.later hb); clear hb b0 b1 b2 I1
  have a0 := boxM_0 I2.out.b0; have a1 := boxM_1 I2.out.b0
  have b0 := boxM_0 I2.out.b1; have b1 := boxM_1 I2.out.b1
  go_wp2_with fail
  go_loopw [7] (fun i wr => ∃ (i' : Nat) (A : Option Addr) (c : Nat), i' ≤ R ∧ i = .int .i64 (i' : Int) ∧ RmIn w wr a b Pa Pb p1 p2 w3.heap.size (i' * C) A c l) (fun i _ => R - (intOf i).toNat)
  case atStart => exact ⟨0, none, 0, by omega, rfl, I2.out.later ((Below.refl _ _).alloc (Nat.le_refl _) _), I2.out.size, (show _ = some (boxM a.r b.c none (0 * C) 0) by rw [Nat.zero_mul]; exact heap_alloc_new w3 _), by simpa using Grow.nil _ _⟩
  case round =>
    clear a0 a1 b0 b1
    obtain ⟨i, A, c, hi', rfl, hin⟩ := hrel
    have a0 := boxM_0 hin.at_.b0
    have Hin := Lib.hid hin; clear hin
    by_cases hi : i < R
    · have da : decide ((i : Int) < a.r) = true := by have := Hg.out.1; simp; omega
      go_wp2_with fail
      go_loopw [8] (fun k wr => ∃ (k' : Nat) (A : Option Addr) (c : Nat), k' ≤ C ∧ k = .int .i64 (k' : Int) ∧ RmIn w wr a b Pa Pb p1 p2 w3.heap.size (i * C + k') A c l) (fun k _ => C - (intOf k).toNat)
      case atStart => exact ⟨0, A, c, by omega, rfl, Hin.out⟩
      case round =>
        clear a0 Hin
        obtain ⟨k, A, c, hk', rfl, hin⟩ := hrel
        have b1 := boxM_1 hin.at_.b1
        have Hin := Lib.hid hin; clear hin
        by_cases hk : k < C
        · have db : decide ((k : Int) < b.c) = true := by have := Hg.out.2.2.2; simp; omega
          go_wp2_with fail
          go_loopw [9, 10] (fun s j wr => ∃ (j' : Nat) (y : UInt8), j' ≤ D ∧ j = .int .i64 (j' : Int) ∧ s = .int .u8 (y.toNat : Int) ∧ y = xs j' (fun d => gm (mx D a.l i d) (mx C b.l d k)) ∧ RmIn w wr a b Pa Pb p1 p2 w3.heap.size (i * C + k) A c l) (fun _ j _ => D - (intOf j).toNat)
          case atStart => exact ⟨0, 0, by omega, rfl, rfl, rfl, Hin.out⟩
          case round =>
            clear b1 Hin
            obtain ⟨j, y, hj', rfl, rfl, hy, hin⟩ := hrel
            have a1 := boxM_1 hin.at_.b0
            have Hin := Lib.hid hin; clear hin
            have Hy := Lib.hid hy; clear hy
            by_cases hj : j < D
            · have dj : decide ((j : Int) < a.c) = true := by have := Hg.out.2.1; simp; omega
              have hbj := Hin.out.at_.below
              have ax0 : wr.drew.cell? ⟨w.heap.size, 0, none⟩ = some (.int .i64 a.r) := boxM_0 Hin.out.at_.b0
              have ax1 : wr.drew.cell? ⟨w.heap.size, 1, none⟩ = some (.int .i64 a.c) := boxM_1 Hin.out.at_.b0
              have ax2 : wr.drew.cell? ⟨w.heap.size, 2, none⟩ = some (.slice Pa a.l.length p1) := boxM_2 Hin.out.at_.b0
              have bx0 : wr.drew.cell? ⟨w.heap.size + 1, 0, none⟩ = some (.int .i64 b.r) := boxM_0 Hin.out.at_.b1
              have bx1 : wr.drew.cell? ⟨w.heap.size + 1, 1, none⟩ = some (.int .i64 b.c) := boxM_1 Hin.out.at_.b1
              have bx2 : wr.drew.cell? ⟨w.heap.size + 1, 2, none⟩ = some (.slice Pb b.l.length p2) := boxM_2 Hin.out.at_.b1
              go_wp2_with fail
              refine wp_region_held_drew (S := fun w' => Fr (fun _ => False) wr.drew w') (by kernel_rfl) (Fr.refl _ _) (fun hHeld => ?_)
              clear hHeld
              refine wpAnyH_take (i := 0) (oi := ⟨some 50, _, _, _, _, _⟩) (v := ?vh0) rfl (by kernel_rfl) (by kernel_rfl) (by kernel_rfl) (fun _ _ _ h => h) (Or.inl ⟨by rfl, ?yh0⟩) (Fr.refl _ _) ?rh0
              case yh0 =>
                intro wq hSw
                (try dsimp only at hSw)
                first | (go_simp; done) | (go_simp; with_reducible rfl)
              try simp only [Act.put, List.setIfInBounds_toArray, List.set_cons_zero, List.set_cons_succ]
              refine wpAnyH_take (i := 1) (oi := ⟨some 51, _, _, _, _, _⟩) (v := ?vh1) rfl (by kernel_rfl) (by kernel_rfl) (by kernel_rfl) (fun _ _ _ h => h) (Or.inl ⟨by rfl, ?yh1⟩) (Fr.refl _ _) ?rh1
              case yh1 =>
                intro wq hSw
                (try dsimp only at hSw)
                have q0 := hSw.cell_some ax0 (fun h => h)
                have q1 := hSw.cell_some ax1 (fun h => h)
                have q2 := hSw.cell_some ax2 (fun h => h)
                first | (go_simp; done) | (go_simp; with_reducible rfl)
              try simp only [Act.put, List.setIfInBounds_toArray, List.set_cons_zero, List.set_cons_succ]
              refine wpAnyH_take (i := 2) (oi := ⟨some 52, _, _, _, _, _⟩) (v := ?vh2) rfl (by kernel_rfl) (by kernel_rfl) (by kernel_rfl) (fun _ _ _ h => h) (Or.inl ⟨by rfl, ?yh2⟩) (Fr.refl _ _) ?rh2
              case yh2 =>
                intro wq hSw
                (try dsimp only at hSw)
                first | (go_simp; done) | (go_simp; with_reducible rfl)
              try simp only [Act.put, List.setIfInBounds_toArray, List.set_cons_zero, List.set_cons_succ]
              refine wpAnyH_take (i := 3) (oi := ⟨some 53, _, _, _, _, _⟩) (v := ?vh3) rfl (by kernel_rfl) (by kernel_rfl) (by kernel_rfl) (fun _ _ _ h => h) (Or.inl ⟨by rfl, ?yh3⟩) (Fr.refl _ _) ?rh3
              case yh3 =>
                intro wq hSw
                (try dsimp only at hSw)
                first | (go_simp; done) | (go_simp; with_reducible rfl)
              try simp only [Act.put, List.setIfInBounds_toArray, List.set_cons_zero, List.set_cons_succ]
              refine wpAnyH_take (i := 5) (oi := ⟨some 55, _, _, _, _, _⟩) (v := ?vh5) rfl (by kernel_rfl) (by kernel_rfl) (by kernel_rfl) (fun _ _ _ h => h) (Or.inl ⟨by rfl, ?yh5⟩) (Fr.refl _ _) ?rh5
              case yh5 =>
                intro wq hSw
                (try dsimp only at hSw)
                have q0 := hSw.cell_some bx0 (fun h => h)
                have q1 := hSw.cell_some bx1 (fun h => h)
                have q2 := hSw.cell_some bx2 (fun h => h)
                first | (go_simp; done) | (go_simp; with_reducible rfl)
              try simp only [Act.put, List.setIfInBounds_toArray, List.set_cons_zero, List.set_cons_succ]
              refine wpAnyH_take (i := 6) (oi := ⟨some 56, _, _, _, _, _⟩) (v := ?vh6) rfl (by kernel_rfl) (by kernel_rfl) (by kernel_rfl) (fun _ _ _ h => h) (Or.inl ⟨by rfl, ?yh6⟩) (Fr.refl _ _) ?rh6
              case yh6 =>
                intro wq hSw
                (try dsimp only at hSw)
                first | (go_simp; done) | (go_simp; with_reducible rfl)
              try simp only [Act.put, List.setIfInBounds_toArray, List.set_cons_zero, List.set_cons_succ]
              refine wpAnyH_take (i := 7) (oi := ⟨some 57, _, _, _, _, _⟩) (v := ?vh7) rfl (by kernel_rfl) (by kernel_rfl) (by kernel_rfl) (fun _ _ _ h => h) (Or.inl ⟨by rfl, ?yh7⟩) (Fr.refl _ _) ?rh7
              case yh7 =>
                intro wq hSw
                (try dsimp only at hSw)
                first | (go_simp; done) | (go_simp; with_reducible rfl)
              try simp only [Act.put, List.setIfInBounds_toArray, List.set_cons_zero, List.set_cons_succ]
              refine wpAnyH_ready (rs := [4]) (by kernel_rfl) (by simp) ?_
              refine AllReadyH.cons (o := ⟨some 54, _, _, _, _, _⟩) rfl (fun K hK => ?_) AllReadyH.nil
              go_simp
              have hh := rat_any a.r a.c Pa a.l.length p1 a.l (i : Int) (j : Int) wr.drew (K1.out.below (Below.drew hbj) (Nat.le_refl _))
              refine hh.mono ?_; clear hh; rintro e w5 ⟨rfl, hb5⟩
              rw [atR_in HA.out hi hj]
              have hfr : Fr (fun _ => False) wr.drew w5 := Fr.of_below hb5
              have Hb5 := Lib.hid ((Below.drew (Below.refl wr.heap.size wr)).trans hb5); clear hb5
              go_wp2_with fail
              refine hK.out _ _ hfr (fun hHeld => ?_)
              clear hK K hHeld
              try simp only [Act.put, List.setIfInBounds_toArray, List.set_cons_zero, List.set_cons_succ]
              refine wpAnyH_re (S' := fun w' => Fr (fun _ => False) w5 w') (fun w' h => hfr.trans h) ?_
              clear hfr
              refine wpAnyH_ready (rs := [8]) (by kernel_rfl) (by simp) ?_
              refine AllReadyH.cons (o := ⟨some 58, _, _, _, _, _⟩) rfl (fun K hK => ?_) AllReadyH.nil
              go_simp
              have hh := rat_any b.r b.c Pb b.l.length p2 b.l (j : Int) (k : Int) w5 (K2.out.below (hbj.trans (Hb5.out.mono hbj.size)) (Nat.le_refl _))
              refine hh.mono ?_; clear hh; rintro e w6 ⟨rfl, hb6⟩
              rw [atR_in HB.out hj hk]
              have hfr : Fr (fun _ => False) w5 w6 := Fr.of_below hb6
              have Hb6 := Lib.hid (Hb5.out.trans (hb6.mono Hb5.out.size)); clear hb6
              go_wp2_with fail
              refine hK.out _ _ hfr (fun hHeld => ?_)
              clear hK K hHeld
              try simp only [Act.put, List.setIfInBounds_toArray, List.set_cons_zero, List.set_cons_succ]
              refine wpAnyH_re (S' := fun w' => Fr (fun _ => False) w6 w') (fun w' h => hfr.trans h) ?_
              clear hfr
              refine wpAnyH_ready (rs := [9]) (by kernel_rfl) (by simp) ?_
              refine AllReadyH.cons (o := ⟨some 59, _, _, _, _, _⟩) rfl (fun K hK => ?_) AllReadyH.nil
              go_simp
              have hh := rmul_any (mx D a.l i j) (mx C b.l j k) w6
              refine hh.mono ?_; clear hh; rintro e w7 ⟨rfl, rfl⟩
              have hfr : Fr (fun _ => False) w7 w7 := Fr.refl _ _
              go_wp2_with fail
              refine hK.out _ _ hfr (fun hHeld => ?_)
              clear hK K hHeld
              try simp only [Act.put, List.setIfInBounds_toArray, List.set_cons_zero, List.set_cons_succ]
              refine wpAnyH_re (S' := fun w' => Fr (fun _ => False) w7 w') (fun w' h => hfr.trans h) ?_
              clear hfr
              refine wpAnyH_take (i := 10) (oi := ⟨some 60, _, _, _, _, _⟩) (v := ?vh10) rfl (by kernel_rfl) (by kernel_rfl) (by kernel_rfl) (fun _ _ _ h => h) (Or.inl ⟨by rfl, ?yh10⟩) (Fr.refl _ _) ?rh10
              case yh10 =>
                intro wq hSw
                (try dsimp only at hSw)
                first | (go_simp; done) | (go_simp; with_reducible rfl)
              try simp only [Act.put, List.setIfInBounds_toArray, List.set_cons_zero, List.set_cons_succ]
              refine wpAnyH_take (i := 11) (oi := ⟨some 9, _, _, _, _, _⟩) (v := ?vh11) rfl (by kernel_rfl) (by kernel_rfl) (by kernel_rfl) (fun _ _ _ h => h) (Or.inl ⟨by rfl, ?yh11⟩) (Fr.refl _ _) ?rh11
              case yh11 =>
                intro wq hSw
                (try dsimp only at hSw)
                first | (go_simp; done) | (go_simp; with_reducible rfl)
              try simp only [Act.put, List.setIfInBounds_toArray, List.set_cons_zero, List.set_cons_succ]
              refine wpAnyH_done (by kernel_rfl) ?_ _
              clear ax0 ax1 ax2 bx0 bx1 bx2 a1
              have hnext : y ^^^ gm (mx D a.l i j) (mx C b.l j k) = xs (j + 1) (fun d => gm (mx D a.l i d) (mx C b.l d k)) := by rw [xs, ← Hy.out]
              have Hnext := Lib.hid hnext; clear hnext
              go_wp2_with fail
              go_roundw
              case rel => exact ⟨j + 1, _, by omega, by go_num, by rw [xor_b], Hnext.out, Hin.out.later Hb6.out⟩
              case measure => simp [intOf]; omega
            · obtain rfl : j = D := by omega
              have dj : decide ((j : Int) < a.c) = false := by have := Hg.out.2.1; simp; omega
              have m2 := boxM_2 Hin.out.m
              have z2 := boxM_free Hin.out.m 2
              have hidx := idx_lt hi hk
              have hx := tabL_snoc R C (mm j (mx j a.l) (mx C b.l)) (i * C + k) hidx
              rw [(idx_div (i := i) hk).1, (idx_div (i := i) hk).2, ← Hl.out] at hx
              have hyv : mm j (mx j a.l) (mx C b.l) i k = y := Hy.out.symm
              rw [hyv] at hx
              have Hx := Lib.hid hx; clear hx hyv
              obtain ⟨q, hq⟩ : ∃ q, q = i * C + k := ⟨_, rfl⟩
              rw [← hq] at Hin Hx m2 hidx
              have Hq := Lib.hid hq; clear hq
              have hbw0 : Below wr.heap.size wr (wr.alloc (.cells #[.int .u8 (y.toNat : Int)] 5)) := (Below.refl _ _).alloc (Nat.le_refl _) _
              have hbml := block_lt Hin.out.m
              go_wp2_with (at_builtin; refine wpList_append_bm (B := w3.heap.size + 1) rfl (.tmp 62) (.tmp 64) rfl rfl (Hin.out.grow.below hbw0).own ?pa (some ⟨wr.heap.size, 0, none⟩) 1 1 [y] rfl (Sl.one _ _ _ _ rfl) ?pb ?pc)
              case pa => simp; omega
              case pb => omega
              intro A2 c2' w5 ho5 hb5 hrow5
              have hm5 := Hin.out.more hbw0 ho5 hb5 hrow5 Hx.out
              have hz5 := hb5.size
              have n2 := (hb5.cell (p := ⟨w3.heap.size, 2, none⟩) (by simp)).trans ((hbw0.cell (p := ⟨w3.heap.size, 2, none⟩) hbml).trans m2)
              have y2 := (hb5.frozen (p := ⟨w3.heap.size, 2, none⟩) (by simp)).trans ((hbw0.frozen (p := ⟨w3.heap.size, 2, none⟩) hbml).trans z2)
              have Hm5 := Lib.hid hm5; clear hm5 ho5 hrow5 hb5 m2 z2 a1
              go_wp2_with fail
              go_roundw
              case rel => exact ⟨k + 1, A2, c2', by omega, by go_num, by have := Hm5.out; rw [Hq.out, Nat.add_assoc] at this; rw [Hq.out]; exact this⟩
              case measure => simp [intOf]; omega
        · obtain rfl : k = C := by omega
          have db : decide ((k : Int) < b.c) = false := by have := Hg.out.2.2.2; simp; omega
          go_wp2_with fail
          go_roundw
          case rel => exact ⟨i + 1, A, c, by omega, by go_num, by rw [Nat.add_mul, Nat.one_mul]; exact Hin.out⟩
          case measure => simp [intOf]; omega
    · obtain rfl : i = R := by omega
      have da : decide ((i : Int) < a.r) = false := by have := Hg.out.1; simp; omega
      have m0 := boxM_0 Hin.out.m; have m1 := boxM_1 Hin.out.m; have m2 := boxM_2 Hin.out.m
      have x0 := box0_0 Hin.out.at_.b2; have x1 := box0_1 Hin.out.at_.b2; have x2 := box0_2 Hin.out.at_.b2
      have y0 := box0_free Hin.out.at_.b2 0; have y1 := box0_free Hin.out.at_.b2 1; have y2 := box0_free Hin.out.at_.b2 2
      have hhi := Hin.out.hi
      go_wp2_with fail
      refine bodyPost_ret (results_cell_pair Try.results22 _ _ (w.heap.size + 1 + 1) 24 _ (0, 0) _ rfl (box0_set Hin.out.at_.b2) Try.underlying24 rfl size_matrix) rfl ?_
      have hq := box0_fr wr (w.heap.size + 1 + 1) a.r b.c A (i * C) c
      have hgr := (Hin.out.grow.frG hq (by omega)).lower (B' := w.heap.size) (by omega)
      rw [List.take_of_length_le (by rw [Hl.out, tabL_length]; exact Nat.le_refl _)] at hgr
      refine ⟨⟨M3.of i C (mm D (mx D a.l) (mx C b.l)), A, c, 0, ?_, ?_, rfl, rfl⟩, Hin.out.at_.below.trans (hq.below Hin.out.at_.below.size (fun k hk => by have hk : k = w.heap.size + 1 + 1 := hk; omega))⟩
      · rw [Hg.out.1, Hg.out.2.2.2, M3.v, M3.of, tabL_length]
        rfl
      · show Grow _ _ A (tabL i C (mm D (mx D a.l) (mx C b.l))).length c (tabL i C (mm D (mx D a.l) (mx C b.l)))
        rw [tabL_length, ← Hl.out]
        exact hgr

theorem rmm_all (a b : M3) (Pa Pb : Option Addr) (p1 p2 : Nat) (w : World) (s1 : Sl w 1 Pa a.l.length p1 (cells a.l)) (s2 : Sl w 1 Pb b.l.length p2 (cells b.l)) :
    Calls Try.prog 22 #[.agg #[.int .i64 a.r, .int .i64 a.c, .slice Pa a.l.length p1], .agg #[.int .i64 b.r, .int .i64 b.c, .slice Pb b.l.length p2]] w (RetN (MulR a b) w) := by
  by_cases hok : a.ok = true ∧ b.ok = true ∧ a.c = b.r
  · obtain ⟨R, D, hA⟩ := M3.is_of_ok hok.1
    obtain ⟨D', C, hB⟩ := M3.is_of_ok hok.2.1
    obtain rfl : D = D' := by have := hA.c; have := hB.r; have := hok.2.2; omega
    refine (rmm_yes a b Pa Pb p1 p2 w s1 s2 R D C hA hB).mono ?_
    rintro e w' ⟨⟨m, A, cp, x, he, hg, rfl, rfl⟩, hb⟩
    exact ⟨⟨_, A, cp, 0, he, hg, .inl ⟨R, D, C, hA, hB, M3.is_of hA.r1 hA.r2 hB.c1 hB.c2, rfl⟩⟩, hb⟩
  · refine (rmm_no a b Pa Pb p1 p2 w s1.lim s2.lim hok).mono ?_
    rintro e w' ⟨rfl, hb⟩
    exact ⟨⟨M3.none, none, 0, 2, rfl, Grow.nil _ _, .inr ⟨hok, rfl, rfl⟩⟩, hb⟩
theorem MulR.one {a b o o' : M3} {x x' : Int} (h : MulR a b o x) (h' : MulR a b o' x') : o = o' ∧ x = x' := by
  rcases h with ⟨R, D, C, hA, hB, ho, hx⟩ | ⟨hn, ho, hx⟩
  · obtain ⟨hx', ho'⟩ := h'.go hA hB
    exact ⟨ho.same ho' fun _ _ _ _ => rfl, by rw [hx, hx']⟩
  · rcases h' with ⟨R, D, C, hA, hB, _, _⟩ | ⟨_, ho', hx'⟩
    · exact absurd ⟨hA.ok, hB.ok, by rw [hA.c, hB.r]⟩ hn
    · exact ⟨by rw [ho, ho'], by rw [hx, hx']⟩
end Go.Proofs.Ytccnoflgbopjlaa
