/-
  Contracts of package delta's turn: factor, alone, added. Condition: the coder is one that New made ('Cod'). (Written by gen_dpb.py.)
-/
import Derived.Test.YtjacdabhlnfbkaaDpa
namespace Go.Proofs.Ytjacdabhlnfbkaa
open Go.RowKit Go.Proofs
set_option linter.unusedVariables false

/-- A change of data row j, and the parity that it goes to. -/
def turnV (C j : Nat) (Ac : Option Addr) (Lc cc : Nat) (Ap : Option Addr) (np cp : Nat) : Array Value := #[.pointer (some ⟨C, 0, none⟩), .int .i64 (j : Int), .slice Ac Lc cc, .slice Ap np cp]
/-- What a call of a turn's method has at hand: its own copy lies at block B. -/
structure Trn (w0 : World) (B C k m F T j : Nat) (Ac : Option Addr) (Lc cc : Nat) (ch : List UInt8) (Ap : Option Addr) (np cp : Nat) (par : List (List UInt8)) (w : World) : Prop where
  bel : Below w0.heap.size w0 w
  cod : Cod w C k m F T
  box : w.heap[B]? = some (.cells #[.pointer (some ⟨C, 0, none⟩), .int .i64 (j : Int), .slice Ac Lc cc, .slice Ap np cp] 83 (0, 0))
  chg : Sl w 1 Ac Lc cc (cells ch)
  par : Gr w Ap np cp par
section
variable {w0 w w' : World} {B C k m F T j : Nat} {Ac : Option Addr} {Lc cc : Nat} {ch : List UInt8} {Ap : Option Addr} {np cp : Nat} {par : List (List UInt8)}
theorem Trn.later (h : Trn w0 B C k m F T j Ac Lc cc ch Ap np cp par w) (hb : Below w.heap.size w w') : Trn w0 B C k m F T j Ac Lc cc ch Ap np cp par w' :=
  ⟨h.bel.trans (hb.mono h.bel.size), h.cod.later hb, (hb.block _ (block_lt h.box)).trans h.box, h.chg.below hb (Nat.le_refl _), h.par.later hb⟩
theorem Trn.b0 (h : Trn w0 B C k m F T j Ac Lc cc ch Ap np cp par w) : w.cell? ⟨B, 0, none⟩ = some (.pointer (some ⟨C, 0, none⟩)) := by rw [cell_of_row _ _ _ _ _ _ h.box]; rfl
theorem Trn.b1 (h : Trn w0 B C k m F T j Ac Lc cc ch Ap np cp par w) : w.cell? ⟨B, 1, none⟩ = some (.int .i64 (j : Int)) := by rw [cell_of_row _ _ _ _ _ _ h.box]; rfl
theorem Trn.b2 (h : Trn w0 B C k m F T j Ac Lc cc ch Ap np cp par w) : w.cell? ⟨B, 2, none⟩ = some (.slice Ac Lc cc) := by rw [cell_of_row _ _ _ _ _ _ h.box]; rfl
theorem Trn.b3 (h : Trn w0 B C k m F T j Ac Lc cc ch Ap np cp par w) : w.cell? ⟨B, 3, none⟩ = some (.slice Ap np cp) := by rw [cell_of_row _ _ _ _ _ _ h.box]; rfl
theorem Trn.start (hc : Cod w C k m F T) (hs : Sl w 1 Ac Lc cc (cells ch)) (hg : Gr w Ap np cp par) :
    Trn w w.heap.size C k m F T j Ac Lc cc ch Ap np cp par (w.alloc (.cells #[.pointer (some ⟨C, 0, none⟩), .int .i64 (j : Int), .slice Ac Lc cc, .slice Ap np cp] 83)) :=
  have hb : Below w.heap.size w (w.alloc (.cells #[.pointer (some ⟨C, 0, none⟩), .int .i64 (j : Int), .slice Ac Lc cc, .slice Ap np cp] 83)) := (Below.refl _ _).alloc (Nat.le_refl _) _
  ⟨hb, hc.later hb, heap_alloc_new w _, hs.below hb (Nat.le_refl _), hg.later hb⟩
end

set_option maxRecDepth 20000 in
set_option maxHeartbeats 1600000 in
theorem factor_any (C k m F T j i : Nat) (Ac : Option Addr) (Lc cc : Nat) (ch : List UInt8) (Ap : Option Addr) (np cp : Nat) (par : List (List UInt8)) (w : World) (h : Cod w C k m F T) (hs : Sl w 1 Ac Lc cc (cells ch)) (hg : Gr w Ap np cp par) (hj : j < k) (hi : i < k + m) :
    Calls Try.prog 51 #[.agg #[.pointer (some ⟨C, 0, none⟩), .int .i64 (j : Int), .slice Ac Lc cc, .slice Ap np cp], .int .i64 (i : Int)] w fun e w' => e = .returned (.int .u8 ((facB k i j).toNat : Int)) ∧ Below w.heap.size w w' := by
  have hst := Trn.start (j := j) h hs hg
  have h3 := h.n255
  clear h hs hg
  go_enter Try.func51, Try.ntmps51
  go_upto_region 1 with (fail)
  obtain ⟨B, hB⟩ : ∃ B, B = w.heap.size := ⟨_, rfl⟩
  rw [← hB] at hst ⊢
  obtain ⟨w1, hw1⟩ : ∃ x, x = w.alloc (.cells #[.pointer (some ⟨C, 0, none⟩), .int .i64 (j : Int), .slice Ac Lc cc, .slice Ap np cp] 83) := ⟨_, rfl⟩
  rw [← hw1] at hst ⊢
  clear hw1 hB
  have S0 := Lib.hid (hst.later (Below.drew (Below.refl _ _))); clear hst
  refine wp_region_held_drew (S := fun w' => Fr (fun _ => False) w1.drew w') (by kernel_rfl) (Fr.refl _ _) (fun hHeld => ?_)
  clear hHeld
  refine wpAnyH_take (i := 0) (oi := ⟨some 5, _, _, _, _, _⟩) (v := ?vg0) rfl (by kernel_rfl) (by kernel_rfl) (by kernel_rfl) (fun _ _ _ h => h) (Or.inl ⟨by rfl, ?yg0⟩) (Fr.refl _ _) ?rg0
  case yg0 =>
    intro wq hSw
    (try dsimp only at hSw)
    first | (go_simp; done) | (go_simp; with_reducible rfl)
  try simp only [Act.put, List.setIfInBounds_toArray, List.set_cons_zero, List.set_cons_succ]
  refine wpAnyH_take (i := 1) (oi := ⟨some 6, _, _, _, _, _⟩) (v := ?vg1) rfl (by kernel_rfl) (by kernel_rfl) (by kernel_rfl) (fun _ _ _ h => h) (Or.inl ⟨by rfl, ?yg1⟩) (Fr.refl _ _) ?rg1
  case yg1 =>
    intro wq hSw
    (try dsimp only at hSw)
    have q0 := hSw.cell_some S0.out.b0 (fun h => h)
    first | (go_simp; done) | (go_simp; with_reducible rfl)
  try simp only [Act.put, List.setIfInBounds_toArray, List.set_cons_zero, List.set_cons_succ]
  refine wpAnyH_take (i := 2) (oi := ⟨some 7, _, _, _, _, _⟩) (v := ?vg2) rfl (by kernel_rfl) (by kernel_rfl) (by kernel_rfl) (fun _ _ _ h => h) (Or.inl ⟨by rfl, ?yg2⟩) (Fr.refl _ _) ?rg2
  case yg2 =>
    intro wq hSw
    (try dsimp only at hSw)
    first | (go_simp; done) | (go_simp; with_reducible rfl)
  try simp only [Act.put, List.setIfInBounds_toArray, List.set_cons_zero, List.set_cons_succ]
  refine wpAnyH_take (i := 4) (oi := ⟨some 9, _, _, _, _, _⟩) (v := ?vg4) rfl (by kernel_rfl) (by kernel_rfl) (by kernel_rfl) (fun _ _ _ h => h) (Or.inl ⟨by rfl, ?yg4⟩) (Fr.refl _ _) ?rg4
  case yg4 =>
    intro wq hSw
    (try dsimp only at hSw)
    first | (go_simp; done) | (go_simp; with_reducible rfl)
  try simp only [Act.put, List.setIfInBounds_toArray, List.set_cons_zero, List.set_cons_succ]
  refine wpAnyH_take (i := 5) (oi := ⟨some 10, _, _, _, _, _⟩) (v := ?vg5) rfl (by kernel_rfl) (by kernel_rfl) (by kernel_rfl) (fun _ _ _ h => h) (Or.inl ⟨by rfl, ?yg5⟩) (Fr.refl _ _) ?rg5
  case yg5 =>
    intro wq hSw
    (try dsimp only at hSw)
    have q1 := hSw.cell_some S0.out.b1 (fun h => h)
    first | (go_simp; done) | (go_simp; with_reducible rfl)
  try simp only [Act.put, List.setIfInBounds_toArray, List.set_cons_zero, List.set_cons_succ]
  refine wpAnyH_ready (rs := [3]) (by kernel_rfl) (by simp) ?_
  refine AllReadyH.cons (o := ⟨some 8, _, _, _, _, _⟩) rfl (fun K hK => ?_) AllReadyH.nil
  go_simp
  have hh := crow_at C k m F T (i : Int) i rfl hi w1.drew S0.out.cod
  refine hh.mono ?_; clear hh; rintro e v1 ⟨Ar, nr, cr, rfl, hsr, hbN⟩
  have hnr : nr = k := by
    have := hsr.len
    rw [cells_length, rowC_length] at this
    omega
  subst hnr
  obtain ⟨br, or', rfl, hc⟩ := hsr.at_ hj
  have hcell := hc j _ (cells_get (rowC nr i) j (by rw [rowC_length]; exact hj))
  rw [bv, show (rowC nr i)[j]'(by rw [rowC_length]; exact hj) = facB nr i j from by simp [rowC]] at hcell
  have Hcell := Lib.hid hcell
  have S1 := Lib.hid (S0.out.later hbN)
  have hfr : Fr (fun _ => False) w1.drew v1 := Fr.of_below hbN
  clear hsr hc hcell hbN
  go_wp2_with fail
  refine hK.out _ _ hfr (fun hHeld => ?_)
  clear hK K hHeld
  try simp only [Act.put, List.setIfInBounds_toArray, List.set_cons_zero, List.set_cons_succ]
  refine wpAnyH_re (S' := fun w' => Fr (fun _ => False) v1 w') (fun w' h => hfr.trans h) ?_
  clear hfr
  refine wpAnyH_take (i := 6) (oi := ⟨some 11, _, _, _, _, _⟩) (v := ?vg6) rfl (by kernel_rfl) (by kernel_rfl) (by kernel_rfl) (fun _ _ _ h => h) (Or.inl ⟨by rfl, ?yg6⟩) (Fr.refl _ _) ?rg6
  case yg6 =>
    intro wq hSw
    (try dsimp only at hSw)
    first | (go_simp; done) | (go_simp; with_reducible rfl)
  try simp only [Act.put, List.setIfInBounds_toArray, List.set_cons_zero, List.set_cons_succ]
  refine wpAnyH_take (i := 7) (oi := ⟨some 12, _, _, _, _, _⟩) (v := ?vg7) rfl (by kernel_rfl) (by kernel_rfl) (by kernel_rfl) (fun _ _ _ h => h) (Or.inl ⟨by rfl, ?yg7⟩) (Fr.refl _ _) ?rg7
  case yg7 =>
    intro wq hSw
    (try dsimp only at hSw)
    have q0 := hSw.cell_some Hcell.out (fun h => h)
    first | (go_simp; done) | (go_simp; with_reducible rfl)
  try simp only [Act.put, List.setIfInBounds_toArray, List.set_cons_zero, List.set_cons_succ]
  refine wpAnyH_take (i := 8) (oi := ⟨some 4, _, _, _, _, _⟩) (v := ?vg8) rfl (by kernel_rfl) (by kernel_rfl) (by kernel_rfl) (fun _ _ _ h => h) (Or.inl ⟨by rfl, ?yg8⟩) (Fr.refl _ _) ?rg8
  case yg8 =>
    intro wq hSw
    (try dsimp only at hSw)
    first | (go_simp; done) | (go_simp; with_reducible rfl)
  try simp only [Act.put, List.setIfInBounds_toArray, List.set_cons_zero, List.set_cons_succ]
  refine wpAnyH_done (by kernel_rfl) ?_ _
  go_wp2_with fail
  go_ret
  exact ⟨rfl, S1.out.bel⟩

set_option maxRecDepth 20000 in
set_option maxHeartbeats 1600000 in
theorem alone_any (C k m F T j i : Nat) (Ac : Option Addr) (Lc cc : Nat) (ch : List UInt8) (Ap : Option Addr) (np cp : Nat) (par : List (List UInt8)) (w : World) (h : Cod w C k m F T) (hs : Sl w 1 Ac Lc cc (cells ch)) (hg : Gr w Ap np cp par) (hj : j < k) (hi : i < k + m) (hL : Lc ≤ 1048576) :
    Calls Try.prog 29 #[.agg #[.pointer (some ⟨C, 0, none⟩), .int .i64 (j : Int), .slice Ac Lc cc, .slice Ap np cp], .int .i64 (i : Int)] w (RetMine w.heap.size w (ch.map (gm (facB k i j)))) := by
  have hst := Trn.start (j := j) h hs hg
  have h3 := h.n255
  clear h hs hg
  go_enter Try.func29, Try.ntmps29
  go_upto_region 1 with (fail)
  obtain ⟨B, hB⟩ : ∃ B, B = w.heap.size := ⟨_, rfl⟩
  rw [← hB] at hst ⊢
  obtain ⟨w1, hw1⟩ : ∃ x, x = w.alloc (.cells #[.pointer (some ⟨C, 0, none⟩), .int .i64 (j : Int), .slice Ac Lc cc, .slice Ap np cp] 83) := ⟨_, rfl⟩
  rw [← hw1] at hst ⊢
  clear hw1 hB
  have S0 := Lib.hid (hst.later (Below.drew (Below.refl _ _))); clear hst
  refine wp_region_held_drew (S := fun w' => Fr (fun _ => False) w1.drew w') (by kernel_rfl) (Fr.refl _ _) (fun hHeld => ?_)
  clear hHeld
  refine wpAnyH_take (i := 0) (oi := ⟨some 5, _, _, _, _, _⟩) (v := ?vg0) rfl (by kernel_rfl) (by kernel_rfl) (by kernel_rfl) (fun _ _ _ h => h) (Or.inl ⟨by rfl, ?yg0⟩) (Fr.refl _ _) ?rg0
  case yg0 =>
    intro wq hSw
    (try dsimp only at hSw)
    first | (go_simp; done) | (go_simp; with_reducible rfl)
  try simp only [Act.put, List.setIfInBounds_toArray, List.set_cons_zero, List.set_cons_succ]
  refine wpAnyH_take (i := 1) (oi := ⟨some 6, _, _, _, _, _⟩) (v := ?vg1) rfl (by kernel_rfl) (by kernel_rfl) (by kernel_rfl) (fun _ _ _ h => h) (Or.inl ⟨by rfl, ?yg1⟩) (Fr.refl _ _) ?rg1
  case yg1 =>
    intro wq hSw
    (try dsimp only at hSw)
    have q0 := hSw.cell_some S0.out.b0 (fun h => h)
    first | (go_simp; done) | (go_simp; with_reducible rfl)
  try simp only [Act.put, List.setIfInBounds_toArray, List.set_cons_zero, List.set_cons_succ]
  refine wpAnyH_take (i := 3) (oi := ⟨some 8, _, _, _, _, _⟩) (v := ?vg3) rfl (by kernel_rfl) (by kernel_rfl) (by kernel_rfl) (fun _ _ _ h => h) (Or.inl ⟨by rfl, ?yg3⟩) (Fr.refl _ _) ?rg3
  case yg3 =>
    intro wq hSw
    (try dsimp only at hSw)
    have q0 := hSw.cell_some S0.out.b0 (fun h => h)
    have q1 := hSw.cell_some S0.out.b1 (fun h => h)
    have q2 := hSw.cell_some S0.out.b2 (fun h => h)
    have q3 := hSw.cell_some S0.out.b3 (fun h => h)
    first | (go_simp; done) | (go_simp; with_reducible rfl)
  try simp only [Act.put, List.setIfInBounds_toArray, List.set_cons_zero, List.set_cons_succ]
  refine wpAnyH_take (i := 4) (oi := ⟨some 9, _, _, _, _, _⟩) (v := ?vg4) rfl (by kernel_rfl) (by kernel_rfl) (by kernel_rfl) (fun _ _ _ h => h) (Or.inl ⟨by rfl, ?yg4⟩) (Fr.refl _ _) ?rg4
  case yg4 =>
    intro wq hSw
    (try dsimp only at hSw)
    first | (go_simp; done) | (go_simp; with_reducible rfl)
  try simp only [Act.put, List.setIfInBounds_toArray, List.set_cons_zero, List.set_cons_succ]
  refine wpAnyH_take (i := 6) (oi := ⟨some 11, _, _, _, _, _⟩) (v := ?vg6) rfl (by kernel_rfl) (by kernel_rfl) (by kernel_rfl) (fun _ _ _ h => h) (Or.inl ⟨by rfl, ?yg6⟩) (Fr.refl _ _) ?rg6
  case yg6 =>
    intro wq hSw
    (try dsimp only at hSw)
    first | (go_simp; done) | (go_simp; with_reducible rfl)
  try simp only [Act.put, List.setIfInBounds_toArray, List.set_cons_zero, List.set_cons_succ]
  refine wpAnyH_take (i := 7) (oi := ⟨some 12, _, _, _, _, _⟩) (v := ?vg7) rfl (by kernel_rfl) (by kernel_rfl) (by kernel_rfl) (fun _ _ _ h => h) (Or.inl ⟨by rfl, ?yg7⟩) (Fr.refl _ _) ?rg7
  case yg7 =>
    intro wq hSw
    (try dsimp only at hSw)
    have q2 := hSw.cell_some S0.out.b2 (fun h => h)
    first | (go_simp; done) | (go_simp; with_reducible rfl)
  try simp only [Act.put, List.setIfInBounds_toArray, List.set_cons_zero, List.set_cons_succ]
  refine wpAnyH_ready (rs := [2]) (by kernel_rfl) (by simp) ?_
  refine AllReadyH.cons (o := ⟨some 7, _, _, _, _, _⟩) rfl (fun K hK => ?_) AllReadyH.nil
  go_simp
  have hh := cf_any C k m F T w1.drew S0.out.cod
  refine hh.mono ?_; clear hh; rintro e v1 ⟨rfl, hv⟩
  have hbN : Below w1.drew.heap.size w1.drew v1 := by rw [hv]; exact Below.refl _ _
  have S1 := Lib.hid (S0.out.later hbN)
  have hfr : Fr (fun _ => False) w1.drew v1 := Fr.of_below hbN
  clear hv hbN
  go_wp2_with fail
  refine hK.out _ _ hfr (fun hHeld => ?_)
  clear hK K hHeld
  try simp only [Act.put, List.setIfInBounds_toArray, List.set_cons_zero, List.set_cons_succ]
  refine wpAnyH_re (S' := fun w' => Fr (fun _ => False) v1 w') (fun w' h => hfr.trans h) ?_
  clear hfr
  refine wpAnyH_ready (rs := [5]) (by kernel_rfl) (by simp) ?_
  refine AllReadyH.cons (o := ⟨some 10, _, _, _, _, _⟩) rfl (fun K hK => ?_) AllReadyH.nil
  go_simp
  have hh := factor_any C k m F T j i Ac Lc cc ch _ np cp par v1 S1.out.cod S1.out.chg S1.out.par hj hi
  refine hh.mono ?_; clear hh; rintro e v2 ⟨rfl, hbN⟩
  have S2 := Lib.hid (S1.out.later hbN)
  have hfr : Fr (fun _ => False) v1 v2 := Fr.of_below hbN
  clear hbN
  go_wp2_with fail
  refine hK.out _ _ hfr (fun hHeld => ?_)
  clear hK K hHeld
  try simp only [Act.put, List.setIfInBounds_toArray, List.set_cons_zero, List.set_cons_succ]
  refine wpAnyH_re (S' := fun w' => Fr (fun _ => False) v2 w') (fun w' h => hfr.trans h) ?_
  clear hfr
  refine wpAnyH_ready (rs := [8]) (by kernel_rfl) (by simp) ?_
  refine AllReadyH.cons (o := ⟨some 13, _, _, _, _, _⟩) rfl (fun K hK => ?_) AllReadyH.nil
  go_simp
  have hh := scale1_any F T (facB k i j) Ac Lc cc ch v2 S2.out.cod.fld S2.out.chg (by omega)
  refine hh.mono ?_; clear hh; rintro e v3 ⟨A3, n3, c3, rfl, hs3, hb3, hm3⟩
  have S3 := Lib.hid (S2.out.later hb3)
  have Hs3 := Lib.hid hs3
  have Hm3 := Lib.hid (hm3.lower S2.out.bel.size)
  have hfr : Fr (fun _ => False) v2 v3 := Fr.of_below hb3
  clear hs3 hm3 hb3
  go_wp2_with fail
  refine hK.out _ _ hfr (fun hHeld => ?_)
  clear hK K hHeld
  try simp only [Act.put, List.setIfInBounds_toArray, List.set_cons_zero, List.set_cons_succ]
  refine wpAnyH_re (S' := fun w' => Fr (fun _ => False) v3 w') (fun w' h => hfr.trans h) ?_
  clear hfr
  refine wpAnyH_take (i := 9) (oi := ⟨some 4, _, _, _, _, _⟩) (v := ?vg9) rfl (by kernel_rfl) (by kernel_rfl) (by kernel_rfl) (fun _ _ _ h => h) (Or.inl ⟨by rfl, ?yg9⟩) (Fr.refl _ _) ?rg9
  case yg9 =>
    intro wq hSw
    (try dsimp only at hSw)
    first | (go_simp; done) | (go_simp; with_reducible rfl)
  try simp only [Act.put, List.setIfInBounds_toArray, List.set_cons_zero, List.set_cons_succ]
  refine wpAnyH_done (by kernel_rfl) ?_ _
  go_wp2_with fail
  go_ret
  exact ⟨A3, n3, c3, rfl, Hs3.out, S3.out.bel, Hm3.out⟩

set_option maxRecDepth 20000 in
set_option maxHeartbeats 1600000 in
theorem added_any (C k m F T j i : Nat) (Ac : Option Addr) (Lc cc : Nat) (ch : List UInt8) (Ap : Option Addr) (np cp : Nat) (par : List (List UInt8)) (w : World) (h : Cod w C k m F T) (hs : Sl w 1 Ac Lc cc (cells ch)) (hg : Gr w Ap np cp par) (hj : j < k) (hk : k ≤ i) (hi : i < k + m) (hL : Lc ≤ 1048576) (hnp : np = m) (hW : ∀ x, x < m → (par.getD x []).length ≤ 1048576) :
    Calls Try.prog 37 #[.agg #[.pointer (some ⟨C, 0, none⟩), .int .i64 (j : Int), .slice Ac Lc cc, .slice Ap np cp], .int .i64 (i : Int)] w (RetMine w.heap.size w (fld (facB k i j) ch (par.getD (i - k) []))) := by
  obtain ⟨bp, op, rfl, _⟩ := hg.at_ (by omega)
  have Hnp := Lib.hid hnp; clear hnp
  have HW := Lib.hid hW; clear hW
  have hst := Trn.start (j := j) h hs hg
  have h3 := h.n255
  clear h hs hg
  go_enter Try.func37, Try.ntmps37
  go_upto_region 1 with (fail)
  obtain ⟨B, hB⟩ : ∃ B, B = w.heap.size := ⟨_, rfl⟩
  rw [← hB] at hst ⊢
  obtain ⟨w1, hw1⟩ : ∃ x, x = w.alloc (.cells #[.pointer (some ⟨C, 0, none⟩), .int .i64 (j : Int), .slice Ac Lc cc, .slice (some ⟨bp, op, none⟩) np cp] 83) := ⟨_, rfl⟩
  rw [← hw1] at hst ⊢
  clear hw1 hB
  have S0 := Lib.hid (hst.later (Below.drew (Below.refl _ _))); clear hst
  refine wp_region_held_drew (S := fun w' => Fr (fun _ => False) w1.drew w') (by kernel_rfl) (Fr.refl _ _) (fun hHeld => ?_)
  clear hHeld
  refine wpAnyH_take (i := 0) (oi := ⟨some 5, _, _, _, _, _⟩) (v := ?vg0) rfl (by kernel_rfl) (by kernel_rfl) (by kernel_rfl) (fun _ _ _ h => h) (Or.inl ⟨by rfl, ?yg0⟩) (Fr.refl _ _) ?rg0
  case yg0 =>
    intro wq hSw
    (try dsimp only at hSw)
    first | (go_simp; done) | (go_simp; with_reducible rfl)
  try simp only [Act.put, List.setIfInBounds_toArray, List.set_cons_zero, List.set_cons_succ]
  refine wpAnyH_take (i := 1) (oi := ⟨some 6, _, _, _, _, _⟩) (v := ?vg1) rfl (by kernel_rfl) (by kernel_rfl) (by kernel_rfl) (fun _ _ _ h => h) (Or.inl ⟨by rfl, ?yg1⟩) (Fr.refl _ _) ?rg1
  case yg1 =>
    intro wq hSw
    (try dsimp only at hSw)
    have q0 := hSw.cell_some S0.out.b0 (fun h => h)
    first | (go_simp; done) | (go_simp; with_reducible rfl)
  try simp only [Act.put, List.setIfInBounds_toArray, List.set_cons_zero, List.set_cons_succ]
  refine wpAnyH_take (i := 3) (oi := ⟨some 8, _, _, _, _, _⟩) (v := ?vg3) rfl (by kernel_rfl) (by kernel_rfl) (by kernel_rfl) (fun _ _ _ h => h) (Or.inl ⟨by rfl, ?yg3⟩) (Fr.refl _ _) ?rg3
  case yg3 =>
    intro wq hSw
    (try dsimp only at hSw)
    have q0 := hSw.cell_some S0.out.b0 (fun h => h)
    have q1 := hSw.cell_some S0.out.b1 (fun h => h)
    have q2 := hSw.cell_some S0.out.b2 (fun h => h)
    have q3 := hSw.cell_some S0.out.b3 (fun h => h)
    first | (go_simp; done) | (go_simp; with_reducible rfl)
  try simp only [Act.put, List.setIfInBounds_toArray, List.set_cons_zero, List.set_cons_succ]
  refine wpAnyH_take (i := 4) (oi := ⟨some 9, _, _, _, _, _⟩) (v := ?vg4) rfl (by kernel_rfl) (by kernel_rfl) (by kernel_rfl) (fun _ _ _ h => h) (Or.inl ⟨by rfl, ?yg4⟩) (Fr.refl _ _) ?rg4
  case yg4 =>
    intro wq hSw
    (try dsimp only at hSw)
    first | (go_simp; done) | (go_simp; with_reducible rfl)
  try simp only [Act.put, List.setIfInBounds_toArray, List.set_cons_zero, List.set_cons_succ]
  refine wpAnyH_take (i := 6) (oi := ⟨some 11, _, _, _, _, _⟩) (v := ?vg6) rfl (by kernel_rfl) (by kernel_rfl) (by kernel_rfl) (fun _ _ _ h => h) (Or.inl ⟨by rfl, ?yg6⟩) (Fr.refl _ _) ?rg6
  case yg6 =>
    intro wq hSw
    (try dsimp only at hSw)
    first | (go_simp; done) | (go_simp; with_reducible rfl)
  try simp only [Act.put, List.setIfInBounds_toArray, List.set_cons_zero, List.set_cons_succ]
  refine wpAnyH_take (i := 7) (oi := ⟨some 12, _, _, _, _, _⟩) (v := ?vg7) rfl (by kernel_rfl) (by kernel_rfl) (by kernel_rfl) (fun _ _ _ h => h) (Or.inl ⟨by rfl, ?yg7⟩) (Fr.refl _ _) ?rg7
  case yg7 =>
    intro wq hSw
    (try dsimp only at hSw)
    have q2 := hSw.cell_some S0.out.b2 (fun h => h)
    first | (go_simp; done) | (go_simp; with_reducible rfl)
  try simp only [Act.put, List.setIfInBounds_toArray, List.set_cons_zero, List.set_cons_succ]
  refine wpAnyH_take (i := 8) (oi := ⟨some 13, _, _, _, _, _⟩) (v := ?vg8) rfl (by kernel_rfl) (by kernel_rfl) (by kernel_rfl) (fun _ _ _ h => h) (Or.inl ⟨by rfl, ?yg8⟩) (Fr.refl _ _) ?rg8
  case yg8 =>
    intro wq hSw
    (try dsimp only at hSw)
    first | (go_simp; done) | (go_simp; with_reducible rfl)
  try simp only [Act.put, List.setIfInBounds_toArray, List.set_cons_zero, List.set_cons_succ]
  refine wpAnyH_take (i := 9) (oi := ⟨some 14, _, _, _, _, _⟩) (v := ?vg9) rfl (by kernel_rfl) (by kernel_rfl) (by kernel_rfl) (fun _ _ _ h => h) (Or.inl ⟨by rfl, ?yg9⟩) (Fr.refl _ _) ?rg9
  case yg9 =>
    intro wq hSw
    (try dsimp only at hSw)
    have q3 := hSw.cell_some S0.out.b3 (fun h => h)
    first | (go_simp; done) | (go_simp; with_reducible rfl)
  try simp only [Act.put, List.setIfInBounds_toArray, List.set_cons_zero, List.set_cons_succ]
  refine wpAnyH_take (i := 10) (oi := ⟨some 15, _, _, _, _, _⟩) (v := ?vg10) rfl (by kernel_rfl) (by kernel_rfl) (by kernel_rfl) (fun _ _ _ h => h) (Or.inl ⟨by rfl, ?yg10⟩) (Fr.refl _ _) ?rg10
  case yg10 =>
    intro wq hSw
    (try dsimp only at hSw)
    first | (go_simp; done) | (go_simp; with_reducible rfl)
  try simp only [Act.put, List.setIfInBounds_toArray, List.set_cons_zero, List.set_cons_succ]
  refine wpAnyH_take (i := 11) (oi := ⟨some 16, _, _, _, _, _⟩) (v := ?vg11) rfl (by kernel_rfl) (by kernel_rfl) (by kernel_rfl) (fun _ _ _ h => h) (Or.inl ⟨by rfl, ?yg11⟩) (Fr.refl _ _) ?rg11
  case yg11 =>
    intro wq hSw
    (try dsimp only at hSw)
    first | (go_simp; done) | (go_simp; with_reducible rfl)
  try simp only [Act.put, List.setIfInBounds_toArray, List.set_cons_zero, List.set_cons_succ]
  refine wpAnyH_take (i := 12) (oi := ⟨some 17, _, _, _, _, _⟩) (v := ?vg12) rfl (by kernel_rfl) (by kernel_rfl) (by kernel_rfl) (fun _ _ _ h => h) (Or.inl ⟨by rfl, ?yg12⟩) (Fr.refl _ _) ?rg12
  case yg12 =>
    intro wq hSw
    (try dsimp only at hSw)
    have q0 := hSw.cell_some S0.out.b0 (fun h => h)
    first | (go_simp; done) | (go_simp; with_reducible rfl)
  try simp only [Act.put, List.setIfInBounds_toArray, List.set_cons_zero, List.set_cons_succ]
  refine wpAnyH_ready (rs := [2]) (by kernel_rfl) (by simp) ?_
  refine AllReadyH.cons (o := ⟨some 7, _, _, _, _, _⟩) rfl (fun K hK => ?_) AllReadyH.nil
  go_simp
  have hh := cf_any C k m F T w1.drew S0.out.cod
  refine hh.mono ?_; clear hh; rintro e v1 ⟨rfl, hv⟩
  have hbN : Below w1.drew.heap.size w1.drew v1 := by rw [hv]; exact Below.refl _ _
  have S1 := Lib.hid (S0.out.later hbN)
  have hfr : Fr (fun _ => False) w1.drew v1 := Fr.of_below hbN
  clear hv hbN
  go_wp2_with fail
  refine hK.out _ _ hfr (fun hHeld => ?_)
  clear hK K hHeld
  try simp only [Act.put, List.setIfInBounds_toArray, List.set_cons_zero, List.set_cons_succ]
  refine wpAnyH_re (S' := fun w' => Fr (fun _ => False) v1 w') (fun w' h => hfr.trans h) ?_
  clear hfr
  refine wpAnyH_ready (rs := [5]) (by kernel_rfl) (by simp) ?_
  refine AllReadyH.cons (o := ⟨some 10, _, _, _, _, _⟩) rfl (fun K hK => ?_) AllReadyH.nil
  go_simp
  have hh := factor_any C k m F T j i Ac Lc cc ch _ np cp par v1 S1.out.cod S1.out.chg S1.out.par hj hi
  refine hh.mono ?_; clear hh; rintro e v2 ⟨rfl, hbN⟩
  have S2 := Lib.hid (S1.out.later hbN)
  have hfr : Fr (fun _ => False) v1 v2 := Fr.of_below hbN
  clear hbN
  go_wp2_with fail
  refine hK.out _ _ hfr (fun hHeld => ?_)
  clear hK K hHeld
  try simp only [Act.put, List.setIfInBounds_toArray, List.set_cons_zero, List.set_cons_succ]
  refine wpAnyH_re (S' := fun w' => Fr (fun _ => False) v2 w') (fun w' h => hfr.trans h) ?_
  clear hfr
  refine wpAnyH_ready (rs := [13]) (by kernel_rfl) (by simp) ?_
  refine AllReadyH.cons (o := ⟨some 18, _, _, _, _, _⟩) rfl (fun K hK => ?_) AllReadyH.nil
  go_simp
  have hh := ck_any C k m F T v2 S2.out.cod
  refine hh.mono ?_; clear hh; rintro e v3 ⟨rfl, hv⟩
  have hbN : Below v2.heap.size v2 v3 := by rw [hv]; exact Below.refl _ _
  have S3 := Lib.hid (S2.out.later hbN)
  have hfr : Fr (fun _ => False) v2 v3 := Fr.of_below hbN
  clear hv hbN
  go_wp2_with fail
  obtain ⟨bp1, op1, eA, hc⟩ := S3.out.par.at_ (by have := Hnp.out; omega)
  injection eA with eA; injection eA with e1 e2; subst e1; subst e2
  obtain ⟨Ax, cx, hcx, hsx⟩ := hc (i - k) _ (S3.out.par.get (by have := Hnp.out; omega))
  obtain ⟨x, hx⟩ : ∃ x, x = par.getD (i - k) [] := ⟨_, rfl⟩
  rw [← hx] at hcx hsx
  obtain ⟨Lx, hLx⟩ : ∃ y, y = x.length := ⟨_, rfl⟩
  rw [← hLx] at hcx hsx
  have hLx1 : Lx ≤ 1048576 := by rw [hLx, hx]; exact HW.out (i - k) (by omega)
  have Hcx := Lib.hid hcx
  have Hsx := Lib.hid hsx
  have Hx := Lib.hid hx
  clear hc hcx hsx hx hLx
  refine hK.out _ _ hfr (fun hHeld => ?_)
  clear hK K hHeld
  try simp only [Act.put, List.setIfInBounds_toArray, List.set_cons_zero, List.set_cons_succ]
  refine wpAnyH_re (S' := fun w' => Fr (fun _ => False) v3 w') (fun w' h => hfr.trans h) ?_
  clear hfr
  refine wpAnyH_take (i := 14) (oi := ⟨some 19, _, _, _, _, _⟩) (v := ?vg14) rfl (by kernel_rfl) (by kernel_rfl) (by kernel_rfl) (fun _ _ _ h => h) (Or.inl ⟨by rfl, ?yg14⟩) (Fr.refl _ _) ?rg14
  case yg14 =>
    intro wq hSw
    (try dsimp only at hSw)
    have hik : IntKind.i64.wrap ((i : Int) - (k : Int)) = ((i - k : Nat) : Int) := by rw [IntKind.wrap_i64]; omega
    first | (go_simp; done) | (go_simp; with_reducible rfl)
  try simp only [Act.put, List.setIfInBounds_toArray, List.set_cons_zero, List.set_cons_succ]
  refine wpAnyH_take (i := 15) (oi := ⟨some 20, _, _, _, _, _⟩) (v := ?vg15) rfl (by kernel_rfl) (by kernel_rfl) (by kernel_rfl) (fun _ _ _ h => h) (Or.inl ⟨by rfl, ?yg15⟩) (Fr.refl _ _) ?rg15
  case yg15 =>
    intro wq hSw
    (try dsimp only at hSw)
    have hlt : i - k < np := by have := Hnp.out; omega
    first | (go_simp; done) | (go_simp; with_reducible rfl)
  try simp only [Act.put, List.setIfInBounds_toArray, List.set_cons_zero, List.set_cons_succ]
  refine wpAnyH_take (i := 16) (oi := ⟨some 21, _, _, _, _, _⟩) (v := ?vg16) rfl (by kernel_rfl) (by kernel_rfl) (by kernel_rfl) (fun _ _ _ h => h) (Or.inl ⟨by rfl, ?yg16⟩) (Fr.refl _ _) ?rg16
  case yg16 =>
    intro wq hSw
    (try dsimp only at hSw)
    have q0 := hSw.cell_some Hcx.out (fun h => h)
    first | (go_simp; done) | (go_simp; with_reducible rfl)
  try simp only [Act.put, List.setIfInBounds_toArray, List.set_cons_zero, List.set_cons_succ]
  refine wpAnyH_ready (rs := [17]) (by kernel_rfl) (by simp) ?_
  refine AllReadyH.cons (o := ⟨some 22, _, _, _, _, _⟩) rfl (fun K hK => ?_) AllReadyH.nil
  go_simp
  have hh := fold1_any F T (facB k i j) Ac Lc cc ch Ax Lx cx x v3 S3.out.cod.fld S3.out.chg Hsx.out (by omega)
  refine hh.mono ?_; clear hh; rintro e v4 ⟨A4, n4, c4, rfl, hs4, hb4, hm4⟩
  have S4 := Lib.hid (S3.out.later hb4)
  have Hs4 := Lib.hid hs4
  have Hm4 := Lib.hid (hm4.lower S3.out.bel.size)
  have hfr : Fr (fun _ => False) v3 v4 := Fr.of_below hb4
  clear hs4 hm4 hb4
  go_wp2_with fail
  refine hK.out _ _ hfr (fun hHeld => ?_)
  clear hK K hHeld
  try simp only [Act.put, List.setIfInBounds_toArray, List.set_cons_zero, List.set_cons_succ]
  refine wpAnyH_re (S' := fun w' => Fr (fun _ => False) v4 w') (fun w' h => hfr.trans h) ?_
  clear hfr
  refine wpAnyH_take (i := 18) (oi := ⟨some 4, _, _, _, _, _⟩) (v := ?vg18) rfl (by kernel_rfl) (by kernel_rfl) (by kernel_rfl) (fun _ _ _ h => h) (Or.inl ⟨by rfl, ?yg18⟩) (Fr.refl _ _) ?rg18
  case yg18 =>
    intro wq hSw
    (try dsimp only at hSw)
    first | (go_simp; done) | (go_simp; with_reducible rfl)
  try simp only [Act.put, List.setIfInBounds_toArray, List.set_cons_zero, List.set_cons_succ]
  refine wpAnyH_done (by kernel_rfl) ?_ _
  go_wp2_with fail
  go_ret
  exact ⟨A4, n4, c4, rfl, by rw [← Hx.out]; exact Hs4.out, S4.out.bel, by rw [← Hx.out]; exact Hm4.out⟩
end Go.Proofs.Ytjacdabhlnfbkaa
