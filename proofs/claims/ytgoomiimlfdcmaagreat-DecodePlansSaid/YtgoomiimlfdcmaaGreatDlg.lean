/-
  Contracts of package decode's maker, and of what it hands out. Condition: the coder is one that New made; the shards' numbers are k, of which none stands twice; their rows are of one length. (Written by gen_dlg.py.)
-/
import Derived.Test.YtgoomiimlfdcmaaGreatDlf
import Derived.Laws.EntriesVeiled
namespace Go.Proofs.YtgoomiimlfdcmaaGreat
open Go.RowKit Go.Proofs
set_option linter.unusedVariables false

/-- These rows of all. -/
def pick (rs : List (List UInt8)) (t : List Nat) : List (List UInt8) := t.map fun i => rs.getD i []
theorem pick_getD (rs : List (List UInt8)) (t : List Nat) (a : Nat) (h : a < t.length) : (pick rs t).getD a [] = rs.getD (t.getD a 0) [] := by simp [pick, h]
/-- A row that is made anew of these. -/
def makeL (k : Nat) (X : Mx) (rs : List (List UInt8)) (t : List Nat) (W x : Nat) : List UInt8 := sumR W (planL k X x) (pick rs t) k

/-- What maker keeps. -/
structure Mkr (w : World) (Bd C k m F T b3 b4 b5 b7 g2 g5 W n : Nat) (rs : List (List UInt8)) (t : List Nat) (X : Mx) : Prop where
  cod : Cod w C k m F T
  pln : Pln w Bd C k T g2 g5 t X
  c3 : w.cell? ⟨b3, 0, none⟩ = some (.pointer (some ⟨C, 0, none⟩))
  c7 : w.cell? ⟨b7, 0, none⟩ = some (.func (.func 63) #[] #[.pointer (some ⟨g2, 0, none⟩), .pointer (some ⟨g5, 0, none⟩)])
  ex : ∃ (A : Option Addr) (c : Nat) (B : Option Addr) (d : Nat), w.cell? ⟨b4, 0, none⟩ = some (.slice A n c) ∧ w.cell? ⟨b5, 0, none⟩ = some (.slice B k d) ∧ Gr w A n c rs ∧ Sl w 1 B k d (ncells t)
  lt : ∀ a, a < k → t.getD a 0 < n
  wid : ∀ a, a < k → (rs.getD (t.getD a 0) []).length = W
  small : W ≤ 1048576
theorem Mkr.later {w w' : World} {Bd C k m F T b3 b4 b5 b7 g2 g5 W n : Nat} {rs : List (List UInt8)} {t : List Nat} {X : Mx} (h : Mkr w Bd C k m F T b3 b4 b5 b7 g2 g5 W n rs t X) (hb : Below w.heap.size w w') : Mkr w' Bd C k m F T b3 b4 b5 b7 g2 g5 W n rs t X := by
  obtain ⟨A, c, B, d, h1, h2, h3, h4⟩ := h.ex
  have cl : ∀ {p : Addr} {v : Value}, w.cell? p = some v → w'.cell? p = some v := fun h => (hb.cell (World.block_lt_of_cell? w _ h)).trans h
  exact ⟨h.cod.later hb, h.pln.later hb, cl h.c3, cl h.c7, ⟨A, c, B, d, cl h1, cl h2, h3.later hb, h4.below hb (Nat.le_refl _)⟩, h.lt, h.wid, h.small⟩

theorem enters_planned : ∀ args w, (callFunc 63 args).run Tryz.prog w = .ok (.enter 63 args) w := enters_of Tryz.func63 (by kernel_rfl) rfl

set_option maxRecDepth 20000 in
set_option maxHeartbeats 3200000 in
theorem made_anew (Bd C k m F T b3 b4 b5 b7 g2 g5 W n x : Nat) (rs : List (List UInt8)) (t : List Nat) (X : Mx) (w : World) (h : Mkr w Bd C k m F T b3 b4 b5 b7 g2 g5 W n rs t X) (hx : x < k + m) :
    Calls Tryz.prog 74 #[.int .i64 (x : Int), .pointer (some ⟨b4, 0, none⟩), .pointer (some ⟨b5, 0, none⟩), .pointer (some ⟨b7, 0, none⟩), .pointer (some ⟨b3, 0, none⟩)] w (RetMine w.heap.size w (makeL k X rs t W x)) := by
  have h1 := h.cod.k1
  have h3 := h.cod.n255
  have hsm := h.small
  obtain ⟨A, c, B, d, k4, k5, hg, hs⟩ := h.ex
  have htl : t.length = k := by
    have := hs.len
    rw [ncells_length] at this
    omega
  have hlim := hg.lim
  unfold maxLen at hlim
  obtain ⟨b, o, rfl, hc⟩ := hg.at_ (by have := h.lt 0 (by omega); omega)
  obtain ⟨A0, c0, r0, _⟩ := hc _ _ (hg.get (h.lt 0 (by omega)))
  rw [h.wid 0 (by omega)] at r0
  obtain ⟨gb, go, rfl, hcn⟩ := hs.at_ (show 0 < k by omega)
  have n0 := hcn 0 _ (ncells_get t 0 (by omega))
  rw [show t[0]'(by omega) = t.getD 0 0 from by simp [show 0 < t.length by omega], Nat.add_zero] at n0
  have hx0 := h.lt 0 (by omega)
  obtain ⟨x0, hx0d⟩ : ∃ x, x = t.getD 0 0 := ⟨_, rfl⟩
  rw [← hx0d] at n0 r0 hx0
  have hx0i : (x0 : Int) < (n : Int) := by omega
  have hk0 : (0 : Int) < (k : Int) := by omega
  have hk0n : 0 < k := by omega
  have K4 := Lib.hid k4
  have K5 := Lib.hid k5
  have N0 := Lib.hid n0
  have R0 := Lib.hid r0
  have H := Lib.hid h
  have Hg := Lib.hid hg
  have Hs := Lib.hid hs
  have Htl := Lib.hid htl
  clear hx0d hc hcn k4 k5 n0 r0 h hg hs htl
  go_enter Tryz.func74, Tryz.ntmps74
  go_upto_region 1 with (fail)
  refine wp_region_held_drew (S := fun w' => Fr (fun _ => False) w w') (by kernel_rfl) (Fr.drew (Fr.refl _ _)) (fun hHeld => ?_)
  clear hHeld
  have hHeld : Fr (fun _ => False) w w.drew := Fr.drew (Fr.refl _ _)
  have hz_0 : w.heap.size ≤ w.drew.heap.size := Nat.le_refl _
  obtain ⟨v_1, hw⟩ : ∃ v_1, v_1 = w.drew := ⟨_, rfl⟩
  rw [← hw] at hHeld hz_0  ⊢
  clear hw
  refine wpAnyH_take (i := 0) (oi := ⟨some 10, _, _, _, _, _⟩) (v := ?vg0_2) rfl (by kernel_rfl) (by kernel_rfl) (by kernel_rfl) (fun _ _ _ h => h) (Or.inl ⟨by rfl, ?yg0_2⟩) hHeld ?rg0_2
  case yg0_2 =>
    intro wq hSw
    (try dsimp only at hSw)
    have qK4 := hSw.cell_some K4.out (fun h => h)
    first | (go_simp; done) | (go_simp; with_reducible rfl)
  try simp only [Act.put, List.setIfInBounds_toArray, List.set_cons_zero, List.set_cons_succ]
  refine wpAnyH_take (i := 1) (oi := ⟨some 11, _, _, _, _, _⟩) (v := ?vg1_3) rfl (by kernel_rfl) (by kernel_rfl) (by kernel_rfl) (fun _ _ _ h => h) (Or.inl ⟨by rfl, ?yg1_3⟩) hHeld ?rg1_3
  case yg1_3 =>
    intro wq hSw
    (try dsimp only at hSw)
    have qK5 := hSw.cell_some K5.out (fun h => h)
    first | (go_simp; done) | (go_simp; with_reducible rfl)
  try simp only [Act.put, List.setIfInBounds_toArray, List.set_cons_zero, List.set_cons_succ]
  refine wpAnyH_take (i := 2) (oi := ⟨some 12, _, _, _, _, _⟩) (v := ?vg2_4) rfl (by kernel_rfl) (by kernel_rfl) (by kernel_rfl) (fun _ _ _ h => h) (Or.inl ⟨by rfl, ?yg2_4⟩) hHeld ?rg2_4
  case yg2_4 =>
    intro wq hSw
    (try dsimp only at hSw)
    first | (go_simp; done) | (go_simp; with_reducible rfl)
  try simp only [Act.put, List.setIfInBounds_toArray, List.set_cons_zero, List.set_cons_succ]
  refine wpAnyH_take (i := 3) (oi := ⟨some 13, _, _, _, _, _⟩) (v := ?vg3_5) rfl (by kernel_rfl) (by kernel_rfl) (by kernel_rfl) (fun _ _ _ h => h) (Or.inl ⟨by rfl, ?yg3_5⟩) hHeld ?rg3_5
  case yg3_5 =>
    intro wq hSw
    (try dsimp only at hSw)
    have qN0 := hSw.cell_some N0.out (fun h => h)
    first | (go_simp; done) | (go_simp; with_reducible rfl)
  try simp only [Act.put, List.setIfInBounds_toArray, List.set_cons_zero, List.set_cons_succ]
  refine wpAnyH_take (i := 4) (oi := ⟨some 14, _, _, _, _, _⟩) (v := ?vg4_6) rfl (by kernel_rfl) (by kernel_rfl) (by kernel_rfl) (fun _ _ _ h => h) (Or.inl ⟨by rfl, ?yg4_6⟩) hHeld ?rg4_6
  case yg4_6 =>
    intro wq hSw
    (try dsimp only at hSw)
    first | (go_simp; done) | (go_simp; with_reducible rfl)
  try simp only [Act.put, List.setIfInBounds_toArray, List.set_cons_zero, List.set_cons_succ]
  refine wpAnyH_take (i := 5) (oi := ⟨some 15, _, _, _, _, _⟩) (v := ?vg5_7) rfl (by kernel_rfl) (by kernel_rfl) (by kernel_rfl) (fun _ _ _ h => h) (Or.inl ⟨by rfl, ?yg5_7⟩) hHeld ?rg5_7
  case yg5_7 =>
    intro wq hSw
    (try dsimp only at hSw)
    have qR0 := hSw.cell_some R0.out (fun h => h)
    first | (go_simp; done) | (go_simp; with_reducible rfl)
  try simp only [Act.put, List.setIfInBounds_toArray, List.set_cons_zero, List.set_cons_succ]
  refine wpAnyH_take (i := 6) (oi := ⟨some 16, _, _, _, _, _⟩) (v := ?vg6_8) rfl (by kernel_rfl) (by kernel_rfl) (by kernel_rfl) (fun _ _ _ h => h) (Or.inl ⟨by rfl, ?yg6_8⟩) hHeld ?rg6_8
  case yg6_8 =>
    intro wq hSw
    (try dsimp only at hSw)
    first | (go_simp; done) | (go_simp; with_reducible rfl)
  try simp only [Act.put, List.setIfInBounds_toArray, List.set_cons_zero, List.set_cons_succ]
  refine wpAnyH_ready (rs := [7]) (by kernel_rfl) (by simp) ?_
  refine AllReadyH.cons (o := ⟨some 17, _, _, _, _, _⟩) rfl (fun K hK => ?_) (AllReadyH.nil)
  have hmk := make_eq (W : Int) W rfl (by omega) v_1
  go_simp
  have hfN : Fr (fun _ => False) v_1 (v_1.alloc (.cells (madeCells #[.int .u8 0] W) 5)) := Fr.of_below ((Below.refl _ _).alloc (Nat.le_refl _) _)
  have hmine := Mine.noughts v_1 W
  have hsl := Sl.noughts v_1 W (by unfold maxLen; omega)
  obtain ⟨v_9, hw⟩ : ∃ x, x = v_1.alloc (.cells (madeCells #[.int .u8 0] W) 5) := ⟨_, rfl⟩
  rw [← hw] at hfN hmine hsl ⊢
  clear hw hmk
  have Hmine := Lib.hid (hmine.lower (B' := w.heap.size) (by have := hHeld.size; omega))
  have Hsl := Lib.hid hsl
  clear hmine hsl
  have hHeld := hHeld.trans hfN
  have hz_10 := hfN.size
  refine hK.out _ _ hHeld (fun _ => ?_)
  clear hK K hfN
  try simp only [Act.put, List.setIfInBounds_toArray, List.set_cons_zero, List.set_cons_succ]
  refine wpAnyH_take (i := 8) (oi := ⟨some 7, _, _, _, _, _⟩) (v := ?vg8_11) rfl (by kernel_rfl) (by kernel_rfl) (by kernel_rfl) (fun _ _ _ h => h) (Or.inl ⟨by rfl, ?yg8_11⟩) hHeld ?rg8_11
  case yg8_11 =>
    intro wq hSw
    (try dsimp only at hSw)
    first | (go_simp; done) | (go_simp; with_reducible rfl)
  try simp only [Act.put, List.setIfInBounds_toArray, List.set_cons_zero, List.set_cons_succ]
  refine wpAnyH_done (by kernel_rfl) ?_ _
  have hb1 := hHeld.belowAll (fun _ h => h.elim)
  have Hb1 := Lib.hid hb1
  obtain ⟨w1, hw1⟩ : ∃ x, x = v_9 := ⟨_, rfl⟩
  rw [← hw1] at Hb1 Hmine Hsl ⊢
  clear hw1 hb1 hHeld
  have H1 := Lib.hid (H.out.later Hb1.out)
  have c7 := H1.out.c7
  have e63 := enters_planned
  have hs1 := Hb1.out.size
  have hh := planned_any Bd C k m F T g2 g5 x t X w1 H1.out.cod H1.out.pln hx
  go_wp2_with fail
  refine hh.mono ?_; clear hh; rintro e w2 ⟨Ap, cp, rfl, hsp, hb2⟩
  have Hb2 := Lib.hid (Hb1.out.trans (hb2.mono hs1))
  have Hmine2 := Lib.hid (Hmine.out.later hb2)
  have Hsl2 := Lib.hid (Hsl.out.below hb2 (Nat.le_refl _))
  have Hsp := Lib.hid hsp
  have hs2 := Hb2.out.size
  clear hb2 hsp c7 e63
  go_wp2_with fail
  go_loopw [7, 22] (fun v i wr => ∃ (j : Nat) (A' : Option Addr) (c' : Nat), j ≤ k ∧ i = .int .i64 (j : Int) ∧ v = .slice A' W c' ∧ Sl wr 1 A' W c' (cells (sumR W (planL k X x) (pick rs t) j)) ∧ Mine wr w.heap.size 5 A' W (cells (sumR W (planL k X x) (pick rs t) j)) ∧ Below w2.heap.size w2 wr) (fun _ i _ => k - (intOf i).toNat)
  case atStart => exact ⟨0, _, _, by omega, rfl, rfl, by rw [sumR_zero]; exact Hsl2.out, by rw [sumR_zero]; exact Hmine2.out, Below.refl _ _⟩
  case round =>
    obtain ⟨j, A', c', hj, rfl, rfl, hss, hm, hb⟩ := hrel
    have Hb := Lib.hid (Hb2.out.trans (hb.mono hs2))
    have hbk := hb
    have Hm := Lib.hid hm
    by_cases hlt : j < k
    · have hr := H.out.later Hb.out
      have hji : (j : Int) < (k : Int) := by omega
      obtain ⟨bp, op, rfl, hcp⟩ := (Hsp.out.below hb (Nat.le_refl _)).at_ hlt
      have hcell := hcp j _ (cells_get _ j (by rw [planL_length]; exact hlt))
      rw [show (planL k X x)[j]'(by rw [planL_length]; exact hlt) = (planL k X x).getD j 0 from by simp [planL_length, hlt], bv] at hcell
      obtain ⟨y, hy⟩ : ∃ y, y = (planL k X x).getD j 0 := ⟨_, rfl⟩
      rw [← hy] at hcell
      obtain ⟨b', o', e', hcr⟩ := (Hg.out.later Hb.out).at_ (by have := H.out.lt 0 (by omega); omega)
      injection e' with e'
      injection e' with e1 e2
      subst e1; subst e2
      obtain ⟨Ar, cr, q0, sr⟩ := hcr _ _ (Hg.out.get (H.out.lt j hlt))
      rw [H.out.wid j hlt] at q0 sr
      obtain ⟨gb', go', e', hcn⟩ := (Hs.out.below Hb.out (Nat.le_refl _)).at_ hlt
      injection e' with e'
      injection e' with e1 e2
      subst e1; subst e2
      have m0 := hcn j _ (ncells_get t j (by rw [Htl.out]; exact hlt))
      rw [show t[j]'(by rw [Htl.out]; exact hlt) = t.getD j 0 from by simp [show j < t.length by rw [Htl.out]; exact hlt]] at m0
      have hxj := H.out.lt j hlt
      have hnext := sumR_next W (planL k X x) (pick rs t) j (by rw [pick_getD _ _ _ (by rw [Htl.out]; exact hlt)]; exact H.out.wid j hlt)
      rw [← hy, pick_getD _ _ _ (by rw [Htl.out]; exact hlt)] at hnext
      obtain ⟨xj, hxjd⟩ : ∃ x, x = t.getD j 0 := ⟨_, rfl⟩
      rw [← hxjd] at m0 q0 sr hxj hnext
      obtain ⟨r, hrd⟩ : ∃ r, r = rs.getD xj [] := ⟨_, rfl⟩
      rw [← hrd] at sr hnext
      obtain ⟨sumj, hsumj⟩ : ∃ s, s = sumR W (planL k X x) (pick rs t) j := ⟨_, rfl⟩
      rw [← hsumj] at hss hnext
      have hxji : (xj : Int) < (n : Int) := by omega
      have L3 := Lib.hid hr.c3
      have L4 := Lib.hid ((Hb.out.cell (World.block_lt_of_cell? w _ K4.out)).trans K4.out)
      have L5 := Lib.hid ((Hb.out.cell (World.block_lt_of_cell? w _ K5.out)).trans K5.out)
      have M0 := Lib.hid m0
      have Q0 := Lib.hid q0
      have Hr := Lib.hid hr
      have Hsr := Lib.hid sr
      have Hnext := Lib.hid hnext
      have Hs0 := Hs
      have Hs := Lib.hid hss
      have Hbk := Lib.hid hbk
      clear hr hcp hy hcr hcn m0 q0 sr hxjd hrd hsumj hss hm hb hbk hnext
      have hszr := Hb.out.size
      go_upto_region 5 with (fail)
      clear hcell
      refine wp_region_held_drew (S := fun w' => Fr (fun _ => False) wr w') (by kernel_rfl) (Fr.drew (Fr.refl _ _)) (fun hHeld => ?_)
      clear hHeld
      have hHeld : Fr (fun _ => False) wr wr.drew := Fr.drew (Fr.refl _ _)
      have hz_0 : wr.heap.size ≤ wr.drew.heap.size := Nat.le_refl _
      obtain ⟨v_501, hw⟩ : ∃ v_501, v_501 = wr.drew := ⟨_, rfl⟩
      rw [← hw] at hHeld hz_0  ⊢
      clear hw
      refine wpAnyH_take (i := 0) (oi := ⟨some 27, _, _, _, _, _⟩) (v := ?vg0_502) rfl (by kernel_rfl) (by kernel_rfl) (by kernel_rfl) (fun _ _ _ h => h) (Or.inl ⟨by rfl, ?yg0_502⟩) hHeld ?rg0_502
      case yg0_502 =>
        intro wq hSw
        (try dsimp only at hSw)
        have qL3 := hSw.cell_some L3.out (fun h => h)
        first | (go_simp; done) | (go_simp; with_reducible rfl)
      try simp only [Act.put, List.setIfInBounds_toArray, List.set_cons_zero, List.set_cons_succ]
      refine wpAnyH_take (i := 2) (oi := ⟨some 29, _, _, _, _, _⟩) (v := ?vg2_503) rfl (by kernel_rfl) (by kernel_rfl) (by kernel_rfl) (fun _ _ _ h => h) (Or.inl ⟨by rfl, ?yg2_503⟩) hHeld ?rg2_503
      case yg2_503 =>
        intro wq hSw
        (try dsimp only at hSw)
        first | (go_simp; done) | (go_simp; with_reducible rfl)
      try simp only [Act.put, List.setIfInBounds_toArray, List.set_cons_zero, List.set_cons_succ]
      refine wpAnyH_take (i := 3) (oi := ⟨some 30, _, _, _, _, _⟩) (v := ?vg3_504) rfl (by kernel_rfl) (by kernel_rfl) (by kernel_rfl) (fun _ _ _ h => h) (Or.inl ⟨by rfl, ?yg3_504⟩) hHeld ?rg3_504
      case yg3_504 =>
        intro wq hSw
        (try dsimp only at hSw)
        have qL4 := hSw.cell_some L4.out (fun h => h)
        first | (go_simp; done) | (go_simp; with_reducible rfl)
      try simp only [Act.put, List.setIfInBounds_toArray, List.set_cons_zero, List.set_cons_succ]
      refine wpAnyH_take (i := 4) (oi := ⟨some 31, _, _, _, _, _⟩) (v := ?vg4_505) rfl (by kernel_rfl) (by kernel_rfl) (by kernel_rfl) (fun _ _ _ h => h) (Or.inl ⟨by rfl, ?yg4_505⟩) hHeld ?rg4_505
      case yg4_505 =>
        intro wq hSw
        (try dsimp only at hSw)
        have qL5 := hSw.cell_some L5.out (fun h => h)
        first | (go_simp; done) | (go_simp; with_reducible rfl)
      try simp only [Act.put, List.setIfInBounds_toArray, List.set_cons_zero, List.set_cons_succ]
      refine wpAnyH_take (i := 5) (oi := ⟨some 32, _, _, _, _, _⟩) (v := ?vg5_506) rfl (by kernel_rfl) (by kernel_rfl) (by kernel_rfl) (fun _ _ _ h => h) (Or.inl ⟨by rfl, ?yg5_506⟩) hHeld ?rg5_506
      case yg5_506 =>
        intro wq hSw
        (try dsimp only at hSw)
        first | (go_simp; done) | (go_simp; with_reducible rfl)
      try simp only [Act.put, List.setIfInBounds_toArray, List.set_cons_zero, List.set_cons_succ]
      refine wpAnyH_take (i := 6) (oi := ⟨some 33, _, _, _, _, _⟩) (v := ?vg6_507) rfl (by kernel_rfl) (by kernel_rfl) (by kernel_rfl) (fun _ _ _ h => h) (Or.inl ⟨by rfl, ?yg6_507⟩) hHeld ?rg6_507
      case yg6_507 =>
        intro wq hSw
        (try dsimp only at hSw)
        first | (go_simp; done) | (go_simp; with_reducible rfl)
      try simp only [Act.put, List.setIfInBounds_toArray, List.set_cons_zero, List.set_cons_succ]
      refine wpAnyH_take (i := 7) (oi := ⟨some 34, _, _, _, _, _⟩) (v := ?vg7_508) rfl (by kernel_rfl) (by kernel_rfl) (by kernel_rfl) (fun _ _ _ h => h) (Or.inl ⟨by rfl, ?yg7_508⟩) hHeld ?rg7_508
      case yg7_508 =>
        intro wq hSw
        (try dsimp only at hSw)
        have qM0 := hSw.cell_some M0.out (fun h => h)
        first | (go_simp; done) | (go_simp; with_reducible rfl)
      try simp only [Act.put, List.setIfInBounds_toArray, List.set_cons_zero, List.set_cons_succ]
      refine wpAnyH_take (i := 8) (oi := ⟨some 35, _, _, _, _, _⟩) (v := ?vg8_509) rfl (by kernel_rfl) (by kernel_rfl) (by kernel_rfl) (fun _ _ _ h => h) (Or.inl ⟨by rfl, ?yg8_509⟩) hHeld ?rg8_509
      case yg8_509 =>
        intro wq hSw
        (try dsimp only at hSw)
        first | (go_simp; done) | (go_simp; with_reducible rfl)
      try simp only [Act.put, List.setIfInBounds_toArray, List.set_cons_zero, List.set_cons_succ]
      refine wpAnyH_take (i := 9) (oi := ⟨some 36, _, _, _, _, _⟩) (v := ?vg9_510) rfl (by kernel_rfl) (by kernel_rfl) (by kernel_rfl) (fun _ _ _ h => h) (Or.inl ⟨by rfl, ?yg9_510⟩) hHeld ?rg9_510
      case yg9_510 =>
        intro wq hSw
        (try dsimp only at hSw)
        have qQ0 := hSw.cell_some Q0.out (fun h => h)
        first | (go_simp; done) | (go_simp; with_reducible rfl)
      try simp only [Act.put, List.setIfInBounds_toArray, List.set_cons_zero, List.set_cons_succ]
      refine wpAnyH_take (i := 10) (oi := ⟨some 37, _, _, _, _, _⟩) (v := ?vg10_511) rfl (by kernel_rfl) (by kernel_rfl) (by kernel_rfl) (fun _ _ _ h => h) (Or.inl ⟨by rfl, ?yg10_511⟩) hHeld ?rg10_511
      case yg10_511 =>
        intro wq hSw
        (try dsimp only at hSw)
        first | (go_simp; done) | (go_simp; with_reducible rfl)
      try simp only [Act.put, List.setIfInBounds_toArray, List.set_cons_zero, List.set_cons_succ]
      refine wpAnyH_ready (rs := [1]) (by kernel_rfl) (by simp) ?_
      refine AllReadyH.cons (o := ⟨some 28, _, _, _, _, _⟩) rfl (fun K hK => ?_) (AllReadyH.nil)
      go_simp
      have hh := cf_any C k m F T v_501 (Hr.out.cod.later (hHeld.belowAll (fun _ h => h.elim)))
      refine hh.mono ?_; clear hh; rintro e wn ⟨rfl, hwn⟩
      rw [hwn]; clear hwn wn
      have hfN : Fr (fun _ => False) v_501 v_501 := Fr.refl _ _
      go_wp2_with fail
      have hHeld := hHeld.trans hfN
      have hz_512 := hfN.size
      refine hK.out _ _ hHeld (fun _ => ?_)
      clear hK K hfN
      try simp only [Act.put, List.setIfInBounds_toArray, List.set_cons_zero, List.set_cons_succ]
      refine wpAnyH_ready (rs := [11]) (by kernel_rfl) (by simp) ?_
      refine AllReadyH.cons (o := ⟨some 38, _, _, _, _, _⟩) rfl (fun K hK => ?_) (AllReadyH.nil)
      go_simp
      have hbh := hHeld.belowAll (fun _ h => h.elim)
      have hh := fold1_any F T y Ar W cr r A' W c' sumj v_501 (Hr.out.cod.later hbh).fld (Hsr.out.below hbh (Nat.le_refl _)) (Hs.out.below hbh (Nat.le_refl _)) (by omega)
      clear hbh
      refine hh.mono ?_; clear hh; rintro e v_513 ⟨Af, nf, cf, rfl, hsf, hbN, hmf⟩
      have Hsf := Lib.hid hsf
      have Hmf := Lib.hid (hmf.lower (B' := w.heap.size) (by have := hHeld.size; omega))
      have hfN : Fr (fun _ => False) v_501 v_513 := Fr.of_below hbN
      clear hbN hsf hmf
      go_wp2_with fail
      have hHeld := hHeld.trans hfN
      have hz_514 := hfN.size
      refine hK.out _ _ hHeld (fun _ => ?_)
      clear hK K hfN
      try simp only [Act.put, List.setIfInBounds_toArray, List.set_cons_zero, List.set_cons_succ]
      refine wpAnyH_take (i := 12) (oi := ⟨some 7, _, _, _, _, _⟩) (v := ?vg12_515) rfl (by kernel_rfl) (by kernel_rfl) (by kernel_rfl) (fun _ _ _ h => h) (Or.inl ⟨by rfl, ?yg12_515⟩) hHeld ?rg12_515
      case yg12_515 =>
        intro wq hSw
        (try dsimp only at hSw)
        first | (go_simp; done) | (go_simp; with_reducible rfl)
      try simp only [Act.put, List.setIfInBounds_toArray, List.set_cons_zero, List.set_cons_succ]
      refine wpAnyH_done (by kernel_rfl) ?_ _
      have Hbf := Lib.hid (hHeld.belowAll (fun _ h => h.elim))
      obtain ⟨wf, hwf⟩ : ∃ x, x = v_513 := ⟨_, rfl⟩
      rw [← hwf] at Hbf Hsf Hmf ⊢
      clear hwf hHeld
      have hnf : nf = W := by
        have := Hsf.out.len
        rw [cells_length, Hnext.out, sumR_length] at this
        omega
      subst hnf
      go_wp2_with fail
      go_roundw
      case rel => exact ⟨j + 1, Af, cf, by omega, by go_num, rfl, by rw [← Hnext.out]; exact Hsf.out, by rw [← Hnext.out]; exact Hmf.out, Hbk.out.trans (Hbf.out.mono Hbk.out.size)⟩
      case measure => simp [intOf]; omega
    · obtain rfl : j = k := by omega
      have Hs := Lib.hid hss
      clear hss hm hb hbk
      go_wp2_with fail
      go_ret
      exact ⟨A', W, c', rfl, Hs.out, Hb.out, Hm.out⟩

/-- The same, in blocks from Bd on but for what lay in w0. -/
structure MkrB (w0 w : World) (Bd C k m F T b3 b4 b5 b7 g2 g5 W n : Nat) (rs : List (List UInt8)) (t : List Nat) (X : Mx) : Prop where
  cod : Cod w0 C k m F T
  bel : Below w0.heap.size w0 w
  le : w0.heap.size ≤ Bd
  pln : Pln w Bd C k T g2 g5 t X
  c3 : w.heap[b3]? = some (.cells #[.pointer (some ⟨C, 0, none⟩)] 23 (0, 0))
  c7 : w.heap[b7]? = some (.cells #[.func (.func 63) #[] #[.pointer (some ⟨g2, 0, none⟩), .pointer (some ⟨g5, 0, none⟩)]] 93 (0, 0))
  ex : ∃ (A : Option Addr) (c : Nat) (B : Option Addr) (d : Nat), w.heap[b4]? = some (.cells #[.slice A n c] 22 (0, 0)) ∧ w.heap[b5]? = some (.cells #[.slice B k d] 38 (0, 0)) ∧ Gr w0 A n c rs ∧ Sl w0 1 B k d (ncells t)
  h3 : Bd ≤ b3
  h4 : Bd ≤ b4
  h5 : Bd ≤ b5
  h7 : Bd ≤ b7
  lt : ∀ a, a < k → t.getD a 0 < n
  wid : ∀ a, a < k → (rs.getD (t.getD a 0) []).length = W
  small : W ≤ 1048576
section
variable {w0 w w' : World} {Bd C k m F T b3 b4 b5 b7 g2 g5 W n : Nat} {rs : List (List UInt8)} {t : List Nat} {X : Mx}
theorem MkrB.mkr (h : MkrB w0 w Bd C k m F T b3 b4 b5 b7 g2 g5 W n rs t X) : Mkr w Bd C k m F T b3 b4 b5 b7 g2 g5 W n rs t X := by
  obtain ⟨A, c, B, d, h1, h2, h3, h4⟩ := h.ex
  exact ⟨h.cod.later h.bel, h.pln, cell_of_one h.c3, cell_of_one h.c7, ⟨A, c, B, d, cell_of_one h1, cell_of_one h2, h3.later h.bel, h4.below h.bel (Nat.le_refl _)⟩, h.lt, h.wid, h.small⟩
theorem MkrB.fr {S : Nat → Prop} (h : MkrB w0 w Bd C k m F T b3 b4 b5 b7 g2 g5 W n rs t X) (hf : Fr S w w') (hS : ∀ b, S b → w0.heap.size ≤ b ∧ b < Bd) : MkrB w0 w' Bd C k m F T b3 b4 b5 b7 g2 g5 W n rs t X := by
  obtain ⟨A, c, B, d, e1, e2, e3, e4⟩ := h.ex
  have h3 := h.h3; have h4 := h.h4; have h5 := h.h5; have h7 := h.h7
  exact ⟨h.cod, h.bel.trans (hf.below h.bel.size (fun b hb => (hS b hb).1)), h.le, h.pln.fr hf (fun b hb => (hS b hb).2), hf.row_some h.c3 (fun hk => by have := hS _ hk; omega), hf.row_some h.c7 (fun hk => by have := hS _ hk; omega),
    ⟨A, c, B, d, hf.row_some e1 (fun hk => by have := hS _ hk; omega), hf.row_some e2 (fun hk => by have := hS _ hk; omega), e3, e4⟩, h.h3, h.h4, h.h5, h.h7, h.lt, h.wid, h.small⟩
end

set_option maxRecDepth 20000 in
set_option maxHeartbeats 1600000 in
theorem maker_any (C k m F T W n : Nat) (A : Option Addr) (c : Nat) (rs : List (List UInt8)) (B : Option Addr) (d : Nat) (t : List Nat) (w0 w : World) (h : Cod w0 C k m F T) (hg : Gr w0 A n c rs) (hs : Sl w0 1 B k d (ncells t)) (hb : Below w0.heap.size w0 w) (hn : n = k + m) (hlt : ∀ a, a < k → t.getD a 0 < n) (hd : ∀ i, i < k → ∀ j, j < i → t.getD i 0 ≠ t.getD j 0)
    (hw : ∀ a, a < k → (rs.getD (t.getD a 0) []).length = W) (hW : W ≤ 1048576) :
    Calls Tryz.prog 53 #[.pointer (some ⟨C, 0, none⟩), .slice A n c, .slice B k d] w
      fun e w' => ∃ (b3 b4 b5 b7 g2 g5 : Nat) (X : Mx), e = .returned (.func (.func 74) #[] #[.pointer (some ⟨b4, 0, none⟩), .pointer (some ⟨b5, 0, none⟩), .pointer (some ⟨b7, 0, none⟩), .pointer (some ⟨b3, 0, none⟩)]) ∧ MkrB w0 w' w.heap.size C k m F T b3 b4 b5 b7 g2 g5 W n rs t X ∧ Below w.heap.size w w' := by
  have hb3 : Below w.heap.size w (((w.alloc (.cells #[.pointer (some ⟨C, 0, none⟩)] 23)).alloc (.cells #[.slice A n c] 22)).alloc (.cells #[.slice B k d] 38)) := (((Below.refl _ _).alloc (Nat.le_refl _) _).alloc (by simp) _).alloc (by simp; omega) _
  have x3 : (((w.alloc (.cells #[.pointer (some ⟨C, 0, none⟩)] 23)).alloc (.cells #[.slice A n c] 22)).alloc (.cells #[.slice B k d] 38)).heap[w.heap.size]? = _ := (Below.heap_alloc _ _ _ (by simp; omega)).trans (alloc2_old w _ _)
  have x4 : (((w.alloc (.cells #[.pointer (some ⟨C, 0, none⟩)] 23)).alloc (.cells #[.slice A n c] 22)).alloc (.cells #[.slice B k d] 38)).heap[w.heap.size + 1]? = _ := (Below.heap_alloc _ _ _ (by simp)).trans (alloc2_new w _ _)
  have x5 := heap_alloc_new ((w.alloc (.cells #[.pointer (some ⟨C, 0, none⟩)] 23)).alloc (.cells #[.slice A n c] 22)) (.cells #[.slice B k d] 38)
  rw [show ((w.alloc (.cells #[.pointer (some ⟨C, 0, none⟩)] 23)).alloc (.cells #[.slice A n c] 22)).heap.size = w.heap.size + 2 from by simp] at x5
  have k3 := cell_of_one x3
  have k5 := cell_of_one x5
  have hsz := hb3.size
  have hh := planner_any C k m F T B d t _ ((h.later hb).later hb3) ((hs.below hb (Nat.le_refl _)).below hb3 (Nat.le_refl _)) (fun a ha => by have := hlt a ha; omega) hd
  have H := Lib.hid h
  have Hg := Lib.hid hg
  have Hs := Lib.hid hs
  have Hb := Lib.hid hb
  have Hlt := Lib.hid hlt
  have Hw := Lib.hid hw
  have Hb3 := Lib.hid hb3
  have X3 := Lib.hid x3; have X4 := Lib.hid x4; have X5 := Lib.hid x5
  clear h hg hs hb hlt hw hb3 x3 x4 x5 hd hn
  go_enter Tryz.func53, Tryz.ntmps53
  go_wp2_with fail
  refine hh.mono ?_; clear hh; rintro e w2 ⟨g2, g5, X, rfl, hP, hb2⟩
  clear k3 k5
  have hz1 : (((w.alloc (.cells #[.pointer (some ⟨C, 0, none⟩)] 23)).alloc (.cells #[.slice A n c] 22)).alloc (.cells #[.slice B k d] 38)).heap.size = w.heap.size + 3 := by simp
  obtain ⟨w1, hw1⟩ : ∃ x, x = ((w.alloc (.cells #[.pointer (some ⟨C, 0, none⟩)] 23)).alloc (.cells #[.slice A n c] 22)).alloc (.cells #[.slice B k d] 38) := ⟨_, rfl⟩
  rw [← hw1] at hsz Hb3 X3 X4 X5 hP hb2 hz1
  clear hw1
  have hs2 := hb2.size
  have HP := Lib.hid hP
  have Hb2 := Lib.hid hb2
  clear hP hb2
  go_wp2_with fail
  go_ret
  obtain ⟨fv, hfv⟩ : ∃ x, x = Value.func (.func 63) #[] #[.pointer (some ⟨g2, 0, none⟩), .pointer (some ⟨g5, 0, none⟩)] := ⟨_, rfl⟩
  have y7 := heap_alloc_new w2 (.cells #[fv] 93)
  have hf : Fr (fun _ => False) w2 (w2.alloc (.cells #[fv] 93)) := Fr.alloc (Fr.refl _ _) _
  have hb2' := Hb2.out
  have hbf : Below w.heap.size w (w2.alloc (.cells #[fv] 93)) := (Hb3.out.trans (hb2'.mono hsz)).alloc (by omega) _
  rw [hfv] at y7 hf hbf
  have hP := HP.out.fr hf (fun _ h => h.elim)
  have cl : ∀ {p : Nat} {o : Obj}, w1.heap[p]? = some o → w2.heap[p]? = some o := fun h => (hb2'.block _ (block_lt h)).trans h
  refine ⟨w.heap.size, w.heap.size + 1, w.heap.size + 2, w2.heap.size, g2, g5, X, rfl, ⟨H.out, Hb.out.trans (hbf.mono Hb.out.size), Hb.out.size, ?_, hf.row_some (cl X3.out) id, y7, ⟨A, c, B, d, hf.row_some (cl X4.out) id, hf.row_some (cl X5.out) id, Hg.out, Hs.out⟩, by omega, by omega, by omega, by omega, Hlt.out, Hw.out, hW⟩, hbf⟩
  obtain ⟨A5, c5, p1, p2, p3, p4⟩ := hP.ex
  have := hP.hT; have := hP.h2; have := hP.h5
  have hTw := H.out.fld.fld.ltT
  have := Hb.out.size
  exact ⟨hP.inv, ⟨A5, c5, p1, p2, p3, fun b o e => by have := p4 b o e; omega⟩, by omega, by omega, by omega⟩
end Go.Proofs.YtgoomiimlfdcmaaGreat
