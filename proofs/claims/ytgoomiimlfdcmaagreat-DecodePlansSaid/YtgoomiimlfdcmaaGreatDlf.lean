/-
  Contracts of package decode's planner, and of what it hands out. Condition: the coder is one that New made; its shards' numbers are k, of which none stands twice. (Written by gen_dlf.py.)
-/
import Derived.Test.YtgoomiimlfdcmaaGreatDle
namespace Go.Proofs.YtgoomiimlfdcmaaGreat
open Go.RowKit Go.Proofs
set_option linter.unusedVariables false

theorem grow_new {w : World} {B n c : Nat} {A : Option Addr} {l : List UInt8} (h : Grow w B A n c l) (hn : 0 < n) {b o : Nat} (hA : A = some ⟨b, o, none⟩) : B ≤ b := ownsRow_new (h.row hn) hn hA
theorem sl_oneN {w : World} {g n : Nat} {t : TypeId} (hg : w.heap[g]? = some (.cells #[.int .i64 (n : Int)] t (0, 0))) : Sl w 1 (some ⟨g, 0, none⟩) 1 1 (ncells [n]) :=
  ⟨rfl, Nat.le_refl _, by decide, fun j u hu => ⟨g, 0, rfl, by rw [cell_of_row _ _ _ _ _ _ hg, Nat.zero_add]; simpa [ncells] using hu⟩⟩

theorem one_lt {x n : Nat} (hx : x < n) : ∀ a, a < 1 → ([x] : List Nat).getD a 0 < n := fun a ha => by
  obtain rfl : a = 0 := by omega
  exact hx
/-- The factors, of k shards of which none stands twice, have an inverse. -/
theorem facM_inv {k m : Nat} {t : List Nat} (h3 : k + m ≤ 255) (ht : ∀ a, a < k → t.getD a 0 < k + m) (hd : ∀ i, i < k → ∀ j, j < i → t.getD i 0 ≠ t.getD j 0) : ∃ X : Mx, Alike k k (mm k X (facM k t)) one :=
  let ⟨X, h, _⟩ := any_inverse (k := k) (l := fun a => t.getD a 0) (by omega) (fun a ha => by have := ht a ha; omega) hd
  ⟨X, h⟩
theorem alike_tab (k : Nat) (f : Mx) : Alike k k (mx k (tabL k k f)) f := fun i hi j hj => mx_tabL f hi hj
theorem mm_alikeR {n : Nat} {X M M' : Mx} (e : Alike n n M M') : Alike n n (mm n X M) (mm n X M') := fun i hi j hj => xs_congr n fun k hk => by rw [e k hk j hj]

set_option maxRecDepth 20000 in
set_option maxHeartbeats 800000 in
theorem inv_at (C k m F T : Nat) (A : Option Addr) (c : Nat) (t : List Nat) (w : World) (h : Cod w C k m F T) (hs : Sl w 1 A (k * k) c (cells (tabL k k (facM k t)))) (hoff : Off T A (k * k)) (ht : ∀ a, a < k → t.getD a 0 < k + m) (hd : ∀ i, i < k → ∀ j, j < i → t.getD i 0 ≠ t.getD j 0) :
    Calls Tryz.prog 61 #[.pointer (some ⟨F, 0, none⟩), .agg #[.int .i64 (k : Int), .int .i64 (k : Int), .slice A (k * k) c]] w
      fun e w' => ∃ (X : Mx) (A' : Option Addr) (c' : Nat), Alike k k (mm k X (facM k t)) one ∧ e = .returned (.tuple #[.agg #[.int .i64 (k : Int), .int .i64 (k : Int), .slice A' (k * k) c'], .int .i64 0]) ∧ Sl w' 1 A' (k * k) c' (cells (tabL k k X)) ∧ (∀ b o, A' = some ⟨b, o, none⟩ → w.heap.size ≤ b ∧ b < w'.heap.size) ∧ Below w.heap.size w w' := by
  have h1 := h.k1
  have h3 := h.n255
  have hkk : 0 < k * k := Nat.mul_pos (by omega) (by omega)
  refine (invert_yes F T k A (k * k) c (tabL k k (facM k t)) (by omega) (by omega) rfl w h.fld.fld ⟨hs, hoff⟩).mono ?_
  rintro e w' ⟨hr, hf1, hfr⟩
  have hb := Fr.madeAll h.fld hf1 hfr
  rcases hr with ⟨L, hL, hrk, _⟩ | ⟨X, hX, A', c', rfl, hG⟩
  · obtain ⟨X, hX⟩ := facM_inv h3 ht hd
    have := (rk_of_inverse (A := X) (fun i hi j hj => (mm_alikeR (alike_tab k (facM k t)) i hi j hj).trans (hX i hi j hj))).unique hrk
    omega
  · exact ⟨X, A', c', fun i hi j hj => (mm_alikeR (fun i hi j hj => (alike_tab k (facM k t) i hi j hj).symm) i hi j hj).trans (hX i hi j hj), rfl, hG.own.sl, fun b o e => ⟨grow_new hG hkk e, hG.own.sl.lt (by decide) hkk e⟩, hb⟩

/-- The factors by which shard x comes of k shards whose factors' inverse is X. -/
def planL (k : Nat) (X : Mx) (x : Nat) : List UInt8 := rowL k fun b => xs k fun j => gm (facB k x j) (X j b)
theorem planL_length (k : Nat) (X : Mx) (x : Nat) : (planL k X x).length = k := rowL_length _ _
theorem tab1 (k : Nat) (f : Nat → Nat → UInt8) : tabL 1 k f = rowL k (f 0) := by
  apply List.ext_getElem
  · rw [tabL_length, rowL_length, Nat.one_mul]
  · intro i h1 h2
    rw [rowL_length] at h2
    have e1 := tabL_get 1 k f i (by omega)
    have e2 := rowL_get k (f 0) i h2
    rw [List.getElem?_eq_getElem h1, Nat.div_eq_of_lt h2, Nat.mod_eq_of_lt h2, ← e2, List.getElem?_eq_getElem (by rw [rowL_length]; exact h2)] at e1
    exact Option.some.inj e1

theorem drowsOf_one (C k m F T : Nat) (B : Option Addr) (d x : Nat) (w : World) (h : Cod w C k m F T) (hs : Sl w 1 B 1 d (ncells [x])) (hx : x < k + m) :
    Calls Tryz.prog 62 #[.pointer (some ⟨C, 0, none⟩), .slice B 1 d] w fun e w' => (∃ A c, e = .returned (.agg #[.int .i64 1, .int .i64 (k : Int), .slice A k c]) ∧ Grow w' w.heap.size A k c (rowC k x)) ∧ Below w.heap.size w w' := by
  have hh := drowsOf_any C k m F T B 1 d [x] w h hs (one_lt hx) (by omega)
  rw [tab1, Nat.one_mul] at hh
  exact hh

set_option maxRecDepth 20000 in
set_option maxHeartbeats 800000 in
theorem mul_at (C k m F T : Nat) (A : Option Addr) (c x : Nat) (A5 : Option Addr) (c5 : Nat) (X : Mx) (w : World) (h : Cod w C k m F T) (hs : Sl w 1 A k c (cells (rowC k x))) (hoff : Off T A k) (hs5 : Sl w 1 A5 (k * k) c5 (cells (tabL k k X))) (hoff5 : Off T A5 (k * k)) :
    Calls Tryz.prog 64 #[.pointer (some ⟨F, 0, none⟩), .agg #[.int .i64 1, .int .i64 (k : Int), .slice A k c], .agg #[.int .i64 (k : Int), .int .i64 (k : Int), .slice A5 (k * k) c5]] w
      fun e w' => ∃ (A' : Option Addr) (c' : Nat), e = .returned (.tuple #[.agg #[.int .i64 1, .int .i64 (k : Int), .slice A' k c'], .int .i64 0]) ∧ Sl w' 1 A' k c' (cells (planL k X x)) ∧ (∀ b o, A' = some ⟨b, o, none⟩ → w.heap.size ≤ b ∧ b < w'.heap.size) ∧ Below w.heap.size w w' := by
  have h1 := h.k1
  have h3 := h.n255
  refine (mul_yes F T 1 k k A k c (rowC k x) A5 (k * k) c5 (tabL k k X) (by omega) (by omega) (by omega) (by omega) (by omega) (by omega) (by omega) rfl w h.fld.fld ⟨hs, hoff⟩ ⟨hs5, hoff5⟩).mono ?_
  rintro e w' ⟨⟨A', c', rfl, hG⟩, hf1, hfr⟩
  have hb := Fr.madeAll h.fld hf1 hfr
  have e : tabL 1 k (mm k (mx k (rowC k x)) (mx k (tabL k k X))) = planL k X x := by
    rw [tab1]
    apply rowL_congr
    intro b hb
    apply xs_congr
    intro j hj
    rw [mx_tabL _ hj hb, mx, Nat.zero_mul, Nat.zero_add, rowC_getD k x j hj]
  rw [e, Nat.one_mul] at hG
  exact ⟨A', c', by rw [Nat.one_mul]; rfl, hG.own.sl, fun b o e => ⟨grow_new hG (by omega) e, hG.own.sl.lt (by decide) (by omega) e⟩, hb⟩

/-- What planner keeps, in blocks from B on: the coder, and the inverse X. -/
structure Pln (w : World) (B C k T g2 g5 : Nat) (t : List Nat) (X : Mx) : Prop where
  inv : Alike k k (mm k X (facM k t)) one
  ex : ∃ (A : Option Addr) (c : Nat), w.heap[g2]? = some (.cells #[.pointer (some ⟨C, 0, none⟩)] 23 (0, 0)) ∧ w.heap[g5]? = some (.cells #[.int .i64 (k : Int), .int .i64 (k : Int), .slice A (k * k) c] 112 (0, 0)) ∧ Sl w 1 A (k * k) c (cells (tabL k k X)) ∧ ∀ b o, A = some ⟨b, o, none⟩ → B ≤ b
  hT : T < B
  h2 : B ≤ g2
  h5 : B ≤ g5
theorem Pln.fr {S : Nat → Prop} {w w' : World} {B C k T g2 g5 : Nat} {t : List Nat} {X : Mx} (h : Pln w B C k T g2 g5 t X) (hf : Fr S w w') (hS : ∀ b, S b → b < B) : Pln w' B C k T g2 g5 t X := by
  obtain ⟨A, c, h1, h2, h3, h4⟩ := h.ex
  have h2' := h.h2
  have h5' := h.h5
  exact ⟨h.inv, ⟨A, c, hf.row_some h1 (fun hk => by have := hS _ hk; omega), hf.row_some h2 (fun hk => by have := hS _ hk; omega), h3.fr hf (fun b o _ e hk => by have := hS _ hk; have := h4 b o e; omega), h4⟩, h.hT, h.h2, h.h5⟩
theorem Pln.later {w w' : World} {B C k T g2 g5 : Nat} {t : List Nat} {X : Mx} (h : Pln w B C k T g2 g5 t X) (hb : Below w.heap.size w w') : Pln w' B C k T g2 g5 t X := h.fr (S := fun _ => False) (Fr.of_below hb) (fun _ h => h.elim)

set_option maxRecDepth 20000 in
set_option maxHeartbeats 3200000 in
theorem planner_any (C k m F T : Nat) (B : Option Addr) (d : Nat) (t : List Nat) (w : World) (h : Cod w C k m F T) (hs : Sl w 1 B k d (ncells t)) (ht : ∀ a, a < k → t.getD a 0 < k + m) (hd : ∀ i, i < k → ∀ j, j < i → t.getD i 0 ≠ t.getD j 0) :
    Calls Tryz.prog 40 #[.pointer (some ⟨C, 0, none⟩), .slice B k d] w
      fun e w' => ∃ (g2 g5 : Nat) (X : Mx), e = .returned (.func (.func 63) #[] #[.pointer (some ⟨g2, 0, none⟩), .pointer (some ⟨g5, 0, none⟩)]) ∧ Pln w' w.heap.size C k T g2 g5 t X ∧ Below w.heap.size w w' := by
  have h1 := h.k1
  have h3 := h.n255
  have hT := h.fld.fld.ltT
  have hkk : 0 < k * k := Nat.mul_pos (by omega) (by omega)
  have hb0 : Below w.heap.size w (w.alloc (.cells #[.pointer (some ⟨C, 0, none⟩)] 23)) := (Below.refl _ _).alloc (Nat.le_refl _) _
  have hg2 := heap_alloc_new w (.cells #[.pointer (some ⟨C, 0, none⟩)] 23)
  have k2 := cell_of_one hg2
  have H2 := Lib.hid (h.later hb0)
  have Hs2 := Lib.hid (hs.below hb0 (Nat.le_refl _))
  have Ht := Lib.hid ht
  have Hd := Lib.hid hd
  have Hkk := Lib.hid hkk
  clear h hs ht hd
  go_enter Tryz.func40, Tryz.ntmps40
  go_upto_region 1 with (fail)
  have hsz2 := hb0.size
  obtain ⟨w2, hw2⟩ : ∃ x, x = w.alloc (.cells #[.pointer (some ⟨C, 0, none⟩)] 23) := ⟨_, rfl⟩
  obtain ⟨g2, hgd⟩ : ∃ x, x = w.heap.size := ⟨_, rfl⟩
  rw [← hw2] at hb0 hg2 k2 H2 Hs2 hsz2 ⊢
  rw [← hgd] at hg2 k2 ⊢
  have Hgd := Lib.hid hgd
  have Hb2 := Lib.hid hb0
  have Hg2 := Lib.hid hg2
  have K2 := Lib.hid k2
  have hTs : T < w2.heap.size := by omega
  clear hw2 hb0 hg2 k2 hgd
  refine wp_region_held_drew (S := fun w' => Below w2.heap.size w2 w') (by kernel_rfl) (Below.drew (Below.refl _ _)) (fun hHeld => ?_)
  clear hHeld
  have hHeld : Below w2.heap.size w2 w2.drew := Below.drew (Below.refl _ _)
  have hz_0 : w2.heap.size ≤ w2.drew.heap.size ∧ w2.drew.heap.size ≤ w2.heap.size := ⟨Nat.le_refl _, Nat.le_refl _⟩
  obtain ⟨v_1, hw⟩ : ∃ v_1, v_1 = w2.drew := ⟨_, rfl⟩
  rw [← hw] at hHeld hz_0 ⊢
  clear hw
  refine wpAnyH_take (i := 0) (oi := ⟨some 8, _, _, _, _, _⟩) (v := ?vg0_2) rfl (by kernel_rfl) (by kernel_rfl) (by kernel_rfl) (fun _ _ _ h => h) (Or.inl ⟨by rfl, ?yg0_2⟩) hHeld ?rg0_2
  case yg0_2 =>
    intro wq hSw
    (try dsimp only at hSw)
    have q0 := (hSw.cell (World.block_lt_of_cell? w2 _ K2.out)).trans K2.out
    first | (go_simp; done) | (go_simp; with_reducible rfl)
  try simp only [Act.put, List.setIfInBounds_toArray, List.set_cons_zero, List.set_cons_succ]
  refine wpAnyH_take (i := 2) (oi := ⟨some 10, _, _, _, _, _⟩) (v := ?vg2_3) rfl (by kernel_rfl) (by kernel_rfl) (by kernel_rfl) (fun _ _ _ h => h) (Or.inl ⟨by rfl, ?yg2_3⟩) hHeld ?rg2_3
  case yg2_3 =>
    intro wq hSw
    (try dsimp only at hSw)
    have q0 := (hSw.cell (World.block_lt_of_cell? w2 _ K2.out)).trans K2.out
    first | (go_simp; done) | (go_simp; with_reducible rfl)
  try simp only [Act.put, List.setIfInBounds_toArray, List.set_cons_zero, List.set_cons_succ]
  refine wpAnyH_take (i := 3) (oi := ⟨some 11, _, _, _, _, _⟩) (v := ?vg3_4) rfl (by kernel_rfl) (by kernel_rfl) (by kernel_rfl) (fun _ _ _ h => h) (Or.inl ⟨by rfl, ?yg3_4⟩) hHeld ?rg3_4
  case yg3_4 =>
    intro wq hSw
    (try dsimp only at hSw)
    first | (go_simp; done) | (go_simp; with_reducible rfl)
  try simp only [Act.put, List.setIfInBounds_toArray, List.set_cons_zero, List.set_cons_succ]
  refine wpAnyH_ready (rs := [1, 9]) (by kernel_rfl) (by simp) ?_
  refine AllReadyH.cons (o := ⟨some 9, _, _, _, _, _⟩) rfl (fun K hK => ?_) (AllReadyH.cons (o := ⟨some 5, _, _, _, _, _⟩) rfl (fun K hK => ?_) (AllReadyH.nil))
  · go_simp
    have hh := cf_any C k m F T v_1 (H2.out.later hHeld)
    refine hh.mono ?_; clear hh; rintro e wn ⟨rfl, hwn⟩
    rw [hwn]; clear hwn wn
    have hfN : Fr (fun _ => False) v_1 v_1 := Fr.refl _ _
    have hH2 := hHeld
    go_wp2_with fail
    have hHeld := hH2
    clear hH2
    have hz_6 := hfN.size
    refine hK.out _ _ hHeld (fun _ => ?_)
    clear hK K hfN
    try simp only [Act.put, List.setIfInBounds_toArray, List.set_cons_zero, List.set_cons_succ]
    refine wpAnyH_ready (rs := [4, 9]) (by kernel_rfl) (by simp) ?_
    refine AllReadyH.cons (o := ⟨some 12, _, _, _, _, _⟩) rfl (fun K hK => ?_) (AllReadyH.cons (o := ⟨some 5, _, _, _, _, _⟩) rfl (fun K hK => ?_) (AllReadyH.nil))
    · go_simp
      have hh := drowsOf_any C k m F T B k d t v_1 (H2.out.later hHeld) (Hs2.out.below hHeld (Nat.le_refl _)) Ht.out (by omega)
      refine hh.mono ?_; clear hh; rintro e v_8 ⟨⟨A2, c2, rfl, hG⟩, hbN⟩
      have hA2 : ∀ b o, A2 = some ⟨b, o, none⟩ → v_1.heap.size ≤ b := fun b o e => grow_new hG (hkk) e
      have fac_9 := Lib.hid hG.own.sl
      clear hG
      have hfN : Fr (fun _ => False) v_1 v_8 := Fr.of_below hbN
      have hH2 := hHeld.trans (hbN.mono hHeld.size)
      clear hbN
      go_wp2_with fail
      have hHeld := hH2
      clear hH2
      have hz_10 := hfN.size
      refine hK.out _ _ hHeld (fun _ => ?_)
      clear hK K hfN
      try simp only [Act.put, List.setIfInBounds_toArray, List.set_cons_zero, List.set_cons_succ]
      refine wpAnyH_ready (rs := [5, 9]) (by kernel_rfl) (by simp) ?_
      refine AllReadyH.cons (o := ⟨some 13, _, _, _, _, _⟩) rfl (fun K hK => ?_) (AllReadyH.cons (o := ⟨some 5, _, _, _, _, _⟩) rfl (fun K hK => ?_) (AllReadyH.nil))
      · go_simp
        have hh := inv_at C k m F T A2 c2 t v_8 (H2.out.later hHeld) fac_9.out (fun b o hn e => by have := hA2 b o e; have := hHeld.size; omega) Ht.out Hd.out
        refine hh.mono ?_; clear hh; rintro e v_12 ⟨X, A6, c6, hx6, rfl, hs6, hA6, hbN⟩
        have Hx6 := Lib.hid hx6; clear hx6
        have res_13 := Lib.hid hs6
        clear hs6
        have hfN : Fr (fun _ => False) v_8 v_12 := Fr.of_below hbN
        have hH2 := hHeld.trans (hbN.mono hHeld.size)
        clear hbN
        go_wp2_with fail
        have hHeld := hH2
        clear hH2
        have hz_14 := hfN.size
        have fac_15 := Lib.hid (fac_9.out.fr hfN (fun _ _ _ _ h => h))
        clear fac_9
        refine hK.out _ _ hHeld (fun _ => ?_)
        clear hK K hfN
        try simp only [Act.put, List.setIfInBounds_toArray, List.set_cons_zero, List.set_cons_succ]
        refine wpAnyH_take (i := 6) (oi := ⟨some 7, _, _, _, _, _⟩) (v := ?vg6_16) rfl (by kernel_rfl) (by kernel_rfl) (by kernel_rfl) (fun _ _ _ h => h) (Or.inl ⟨by rfl, ?yg6_16⟩) hHeld ?rg6_16
        case yg6_16 =>
          intro wq hSw
          (try dsimp only at hSw)
          first | (go_simp; done) | (go_simp; with_reducible rfl)
        try simp only [Act.put, List.setIfInBounds_toArray, List.set_cons_zero, List.set_cons_succ]
        refine wpAnyH_take (i := 7) (oi := ⟨some 14, _, _, _, _, _⟩) (v := ?vg7_17) rfl (by kernel_rfl) (by kernel_rfl) (by kernel_rfl) (fun _ _ _ h => h) (Or.inl ⟨by rfl, ?yg7_17⟩) hHeld ?rg7_17
        case yg7_17 =>
          intro wq hSw
          (try dsimp only at hSw)
          first | (go_simp; done) | (go_simp; with_reducible rfl)
        try simp only [Act.put, List.setIfInBounds_toArray, List.set_cons_zero, List.set_cons_succ]
        refine wpAnyH_take (i := 8) (oi := ⟨some 15, _, _, _, _, _⟩) (v := ?vg8_18) rfl (by kernel_rfl) (by kernel_rfl) (by kernel_rfl) (fun _ _ _ h => h) (Or.inl ⟨by rfl, ?yg8_18⟩) hHeld ?rg8_18
        case yg8_18 =>
          intro wq hSw
          (try dsimp only at hSw)
          first | (go_simp; done) | (go_simp; with_reducible rfl)
        try simp only [Act.put, List.setIfInBounds_toArray, List.set_cons_zero, List.set_cons_succ]
        refine wpAnyH_ready (rs := [9]) (by kernel_rfl) (by simp) ?_
        refine AllReadyH.cons (o := ⟨some 5, _, _, _, _, _⟩) rfl (fun K hK => ?_) (AllReadyH.nil)
        go_simp
        have hbN : Below v_12.heap.size v_12 (v_12.alloc (.cells #[.int .i64 0, .int .i64 0, .slice none 0 0] 112)) := (Below.refl _ _).alloc (Nat.le_refl _) _
        have hx := heap_alloc_new v_12 (.cells #[.int .i64 0, .int .i64 0, .slice none 0 0] 112)
        have hz_20 : v_12.heap.size + 1 ≤ (v_12.alloc (.cells #[.int .i64 0, .int .i64 0, .slice none 0 0] 112)).heap.size ∧ (v_12.alloc (.cells #[.int .i64 0, .int .i64 0, .slice none 0 0] 112)).heap.size ≤ v_12.heap.size + 1 := by simp
        obtain ⟨v_19, hw⟩ : ∃ v_19, v_19 = v_12.alloc (.cells #[.int .i64 0, .int .i64 0, .slice none 0 0] 112) := ⟨_, rfl⟩
        rw [← hw] at hbN hx hz_20 ⊢
        clear hw
        have hHeld := hHeld.trans (hbN.mono hHeld.size)
        have hfN : Fr (fun _ => False) v_12 v_19 := Fr.of_below hbN
        clear hbN
        have fac_21 := Lib.hid (fac_15.out.fr hfN (fun _ _ _ _ h => h))
        clear fac_15
        have res_22 := Lib.hid (res_13.out.fr hfN (fun _ _ _ _ h => h))
        clear res_13
        have bl_23 := Lib.hid hx
        clear hx
        refine hK.out _ _ hHeld (fun _ => ?_)
        clear hK K hfN
        try simp only [Act.put, List.setIfInBounds_toArray, List.set_cons_zero, List.set_cons_succ]
        refine wpAnyH_ready (rs := [10]) (by kernel_rfl) (by simp) ?_
        refine AllReadyH.cons (o := ⟨none, _, _, _, _, _⟩) rfl (fun K hK => ?_) (AllReadyH.nil)
        have q0 := box0_0 bl_23.out; have q1 := box0_1 bl_23.out; have q2 := box0_2 bl_23.out
        have u0 := box0_free bl_23.out 0; have u1 := box0_free bl_23.out 1; have u2 := box0_free bl_23.out 2
        go_simp
        have hx := box0_set (r := (k : Int)) (c := (k : Int)) (A := A6) (n := (k * k)) (cp := c6) bl_23.out
        have hfN := box0_fr v_19 (v_12.heap.size) (k : Int) (k : Int) A6 (k * k) c6
        have hHeld := hHeld.trans (hfN.below hHeld.size (fun k hk => by have hk : k = v_12.heap.size := hk; omega) |> fun q => q)
        have hz_25 : v_19.heap.size ≤ (((v_19.setCell ⟨v_12.heap.size, 0, none⟩ (.int .i64 (k : Int))).setCell ⟨v_12.heap.size, 1, none⟩ (.int .i64 (k : Int))).setCell ⟨v_12.heap.size, 2, none⟩ (.slice A6 (k * k) c6)).heap.size ∧ (((v_19.setCell ⟨v_12.heap.size, 0, none⟩ (.int .i64 (k : Int))).setCell ⟨v_12.heap.size, 1, none⟩ (.int .i64 (k : Int))).setCell ⟨v_12.heap.size, 2, none⟩ (.slice A6 (k * k) c6)).heap.size ≤ v_19.heap.size := by simp
        obtain ⟨v_24, hw⟩ : ∃ v_24, v_24 = (((v_19.setCell ⟨v_12.heap.size, 0, none⟩ (.int .i64 (k : Int))).setCell ⟨v_12.heap.size, 1, none⟩ (.int .i64 (k : Int))).setCell ⟨v_12.heap.size, 2, none⟩ (.slice A6 (k * k) c6)) := ⟨_, rfl⟩
        rw [← hw] at hHeld hx hfN hz_25 ⊢
        clear hw q0 q1 q2 u0 u1 u2
        have fac_26 := Lib.hid (trivial)
        clear fac_21
        have res_27 := Lib.hid (res_22.out.fr hfN (fun b o hn hA hk => by have hk : b = v_12.heap.size := hk; have := hA6 b o hA; omega))
        clear res_22
        clear bl_23
        have bl_28 := Lib.hid hx
        clear hx
        refine hK.out _ _ hHeld (fun _ => ?_)
        clear hK K hfN
        try simp only [Act.put, List.setIfInBounds_toArray, List.set_cons_zero, List.set_cons_succ]
        refine wpAnyH_take (i := 11) (oi := ⟨some 6, _, _, _, _, _⟩) (v := ?vg11_29) rfl (by kernel_rfl) (by kernel_rfl) (by kernel_rfl) (fun _ _ _ h => h) (Or.inl ⟨by rfl, ?yg11_29⟩) hHeld ?rg11_29
        case yg11_29 =>
          intro wq hSw
          (try dsimp only at hSw)
          first | (go_simp; done) | (go_simp; with_reducible rfl)
        try simp only [Act.put, List.setIfInBounds_toArray, List.set_cons_zero, List.set_cons_succ]
        refine wpAnyH_done (by kernel_rfl) ?_ _
        go_wp2_with fail
        go_ret
        have hx6 := Hx6.out
        have hgd := Hgd.out
        exact ⟨_, _, X, rfl, ⟨hx6, ⟨A6, c6, (hHeld.block _ (block_lt Hg2.out)).trans Hg2.out, bl_28.out, res_27.out, fun b o e => by have := hA6 b o e; omega⟩, by omega, by omega, by omega⟩, Hb2.out.trans (hHeld.mono hsz2)⟩
      · go_simp
        have hbN : Below v_8.heap.size v_8 (v_8.alloc (.cells #[.int .i64 0, .int .i64 0, .slice none 0 0] 112)) := (Below.refl _ _).alloc (Nat.le_refl _) _
        have hx := heap_alloc_new v_8 (.cells #[.int .i64 0, .int .i64 0, .slice none 0 0] 112)
        have hz_31 : v_8.heap.size + 1 ≤ (v_8.alloc (.cells #[.int .i64 0, .int .i64 0, .slice none 0 0] 112)).heap.size ∧ (v_8.alloc (.cells #[.int .i64 0, .int .i64 0, .slice none 0 0] 112)).heap.size ≤ v_8.heap.size + 1 := by simp
        obtain ⟨v_30, hw⟩ : ∃ v_30, v_30 = v_8.alloc (.cells #[.int .i64 0, .int .i64 0, .slice none 0 0] 112) := ⟨_, rfl⟩
        rw [← hw] at hbN hx hz_31 ⊢
        clear hw
        have hHeld := hHeld.trans (hbN.mono hHeld.size)
        have hfN : Fr (fun _ => False) v_8 v_30 := Fr.of_below hbN
        clear hbN
        have fac_32 := Lib.hid (fac_9.out.fr hfN (fun _ _ _ _ h => h))
        clear fac_9
        have bl_33 := Lib.hid hx
        clear hx
        refine hK.out _ _ hHeld (fun _ => ?_)
        clear hK K hfN
        try simp only [Act.put, List.setIfInBounds_toArray, List.set_cons_zero, List.set_cons_succ]
        refine wpAnyH_ready (rs := [5]) (by kernel_rfl) (by simp) ?_
        refine AllReadyH.cons (o := ⟨some 13, _, _, _, _, _⟩) rfl (fun K hK => ?_) (AllReadyH.nil)
        go_simp
        have hh := inv_at C k m F T A2 c2 t v_30 (H2.out.later hHeld) fac_32.out (fun b o hn e => by have := hA2 b o e; have := hHeld.size; omega) Ht.out Hd.out
        refine hh.mono ?_; clear hh; rintro e v_35 ⟨X, A6, c6, hx6, rfl, hs6, hA6, hbN⟩
        have Hx6 := Lib.hid hx6; clear hx6
        have res_36 := Lib.hid hs6
        clear hs6
        have hfN : Fr (fun _ => False) v_30 v_35 := Fr.of_below hbN
        have hH2 := hHeld.trans (hbN.mono hHeld.size)
        clear hbN
        go_wp2_with fail
        have hHeld := hH2
        clear hH2
        have hz_37 := hfN.size
        have fac_38 := Lib.hid (fac_32.out.fr hfN (fun _ _ _ _ h => h))
        clear fac_32
        have bl_39 := Lib.hid (hfN.row_some bl_33.out (fun h => h))
        clear bl_33
        refine hK.out _ _ hHeld (fun _ => ?_)
        clear hK K hfN
        try simp only [Act.put, List.setIfInBounds_toArray, List.set_cons_zero, List.set_cons_succ]
        refine wpAnyH_take (i := 6) (oi := ⟨some 7, _, _, _, _, _⟩) (v := ?vg6_40) rfl (by kernel_rfl) (by kernel_rfl) (by kernel_rfl) (fun _ _ _ h => h) (Or.inl ⟨by rfl, ?yg6_40⟩) hHeld ?rg6_40
        case yg6_40 =>
          intro wq hSw
          (try dsimp only at hSw)
          first | (go_simp; done) | (go_simp; with_reducible rfl)
        try simp only [Act.put, List.setIfInBounds_toArray, List.set_cons_zero, List.set_cons_succ]
        refine wpAnyH_take (i := 7) (oi := ⟨some 14, _, _, _, _, _⟩) (v := ?vg7_41) rfl (by kernel_rfl) (by kernel_rfl) (by kernel_rfl) (fun _ _ _ h => h) (Or.inl ⟨by rfl, ?yg7_41⟩) hHeld ?rg7_41
        case yg7_41 =>
          intro wq hSw
          (try dsimp only at hSw)
          first | (go_simp; done) | (go_simp; with_reducible rfl)
        try simp only [Act.put, List.setIfInBounds_toArray, List.set_cons_zero, List.set_cons_succ]
        refine wpAnyH_take (i := 8) (oi := ⟨some 15, _, _, _, _, _⟩) (v := ?vg8_42) rfl (by kernel_rfl) (by kernel_rfl) (by kernel_rfl) (fun _ _ _ h => h) (Or.inl ⟨by rfl, ?yg8_42⟩) hHeld ?rg8_42
        case yg8_42 =>
          intro wq hSw
          (try dsimp only at hSw)
          first | (go_simp; done) | (go_simp; with_reducible rfl)
        try simp only [Act.put, List.setIfInBounds_toArray, List.set_cons_zero, List.set_cons_succ]
        refine wpAnyH_ready (rs := [10]) (by kernel_rfl) (by simp) ?_
        refine AllReadyH.cons (o := ⟨none, _, _, _, _, _⟩) rfl (fun K hK => ?_) (AllReadyH.nil)
        have q0 := box0_0 bl_39.out; have q1 := box0_1 bl_39.out; have q2 := box0_2 bl_39.out
        have u0 := box0_free bl_39.out 0; have u1 := box0_free bl_39.out 1; have u2 := box0_free bl_39.out 2
        go_simp
        have hx := box0_set (r := (k : Int)) (c := (k : Int)) (A := A6) (n := (k * k)) (cp := c6) bl_39.out
        have hfN := box0_fr v_35 (v_8.heap.size) (k : Int) (k : Int) A6 (k * k) c6
        have hHeld := hHeld.trans (hfN.below hHeld.size (fun k hk => by have hk : k = v_8.heap.size := hk; omega) |> fun q => q)
        have hz_44 : v_35.heap.size ≤ (((v_35.setCell ⟨v_8.heap.size, 0, none⟩ (.int .i64 (k : Int))).setCell ⟨v_8.heap.size, 1, none⟩ (.int .i64 (k : Int))).setCell ⟨v_8.heap.size, 2, none⟩ (.slice A6 (k * k) c6)).heap.size ∧ (((v_35.setCell ⟨v_8.heap.size, 0, none⟩ (.int .i64 (k : Int))).setCell ⟨v_8.heap.size, 1, none⟩ (.int .i64 (k : Int))).setCell ⟨v_8.heap.size, 2, none⟩ (.slice A6 (k * k) c6)).heap.size ≤ v_35.heap.size := by simp
        obtain ⟨v_43, hw⟩ : ∃ v_43, v_43 = (((v_35.setCell ⟨v_8.heap.size, 0, none⟩ (.int .i64 (k : Int))).setCell ⟨v_8.heap.size, 1, none⟩ (.int .i64 (k : Int))).setCell ⟨v_8.heap.size, 2, none⟩ (.slice A6 (k * k) c6)) := ⟨_, rfl⟩
        rw [← hw] at hHeld hx hfN hz_44 ⊢
        clear hw q0 q1 q2 u0 u1 u2
        have fac_45 := Lib.hid (trivial)
        clear fac_38
        clear bl_39
        have res_46 := Lib.hid (res_36.out.fr hfN (fun b o hn hA hk => by have hk : b = v_8.heap.size := hk; have := hA6 b o hA; omega))
        clear res_36
        have bl_47 := Lib.hid hx
        clear hx
        refine hK.out _ _ hHeld (fun _ => ?_)
        clear hK K hfN
        try simp only [Act.put, List.setIfInBounds_toArray, List.set_cons_zero, List.set_cons_succ]
        refine wpAnyH_take (i := 11) (oi := ⟨some 6, _, _, _, _, _⟩) (v := ?vg11_48) rfl (by kernel_rfl) (by kernel_rfl) (by kernel_rfl) (fun _ _ _ h => h) (Or.inl ⟨by rfl, ?yg11_48⟩) hHeld ?rg11_48
        case yg11_48 =>
          intro wq hSw
          (try dsimp only at hSw)
          first | (go_simp; done) | (go_simp; with_reducible rfl)
        try simp only [Act.put, List.setIfInBounds_toArray, List.set_cons_zero, List.set_cons_succ]
        refine wpAnyH_done (by kernel_rfl) ?_ _
        go_wp2_with fail
        go_ret
        have hx6 := Hx6.out
        have hgd := Hgd.out
        exact ⟨_, _, X, rfl, ⟨hx6, ⟨A6, c6, (hHeld.block _ (block_lt Hg2.out)).trans Hg2.out, bl_47.out, res_46.out, fun b o e => by have := hA6 b o e; omega⟩, by omega, by omega, by omega⟩, Hb2.out.trans (hHeld.mono hsz2)⟩
    · go_simp
      have hbN : Below v_1.heap.size v_1 (v_1.alloc (.cells #[.int .i64 0, .int .i64 0, .slice none 0 0] 112)) := (Below.refl _ _).alloc (Nat.le_refl _) _
      have hx := heap_alloc_new v_1 (.cells #[.int .i64 0, .int .i64 0, .slice none 0 0] 112)
      have hz_50 : v_1.heap.size + 1 ≤ (v_1.alloc (.cells #[.int .i64 0, .int .i64 0, .slice none 0 0] 112)).heap.size ∧ (v_1.alloc (.cells #[.int .i64 0, .int .i64 0, .slice none 0 0] 112)).heap.size ≤ v_1.heap.size + 1 := by simp
      obtain ⟨v_49, hw⟩ : ∃ v_49, v_49 = v_1.alloc (.cells #[.int .i64 0, .int .i64 0, .slice none 0 0] 112) := ⟨_, rfl⟩
      rw [← hw] at hbN hx hz_50 ⊢
      clear hw
      have hHeld := hHeld.trans (hbN.mono hHeld.size)
      have hfN : Fr (fun _ => False) v_1 v_49 := Fr.of_below hbN
      clear hbN
      have bl_51 := Lib.hid hx
      clear hx
      refine hK.out _ _ hHeld (fun _ => ?_)
      clear hK K hfN
      try simp only [Act.put, List.setIfInBounds_toArray, List.set_cons_zero, List.set_cons_succ]
      refine wpAnyH_ready (rs := [4]) (by kernel_rfl) (by simp) ?_
      refine AllReadyH.cons (o := ⟨some 12, _, _, _, _, _⟩) rfl (fun K hK => ?_) (AllReadyH.nil)
      go_simp
      have hh := drowsOf_any C k m F T B k d t v_49 (H2.out.later hHeld) (Hs2.out.below hHeld (Nat.le_refl _)) Ht.out (by omega)
      refine hh.mono ?_; clear hh; rintro e v_53 ⟨⟨A2, c2, rfl, hG⟩, hbN⟩
      have hA2 : ∀ b o, A2 = some ⟨b, o, none⟩ → v_49.heap.size ≤ b := fun b o e => grow_new hG (hkk) e
      have fac_54 := Lib.hid hG.own.sl
      clear hG
      have hfN : Fr (fun _ => False) v_49 v_53 := Fr.of_below hbN
      have hH2 := hHeld.trans (hbN.mono hHeld.size)
      clear hbN
      go_wp2_with fail
      have hHeld := hH2
      clear hH2
      have hz_55 := hfN.size
      have bl_56 := Lib.hid (hfN.row_some bl_51.out (fun h => h))
      clear bl_51
      refine hK.out _ _ hHeld (fun _ => ?_)
      clear hK K hfN
      try simp only [Act.put, List.setIfInBounds_toArray, List.set_cons_zero, List.set_cons_succ]
      refine wpAnyH_ready (rs := [5]) (by kernel_rfl) (by simp) ?_
      refine AllReadyH.cons (o := ⟨some 13, _, _, _, _, _⟩) rfl (fun K hK => ?_) (AllReadyH.nil)
      go_simp
      have hh := inv_at C k m F T A2 c2 t v_53 (H2.out.later hHeld) fac_54.out (fun b o hn e => by have := hA2 b o e; have := hHeld.size; omega) Ht.out Hd.out
      refine hh.mono ?_; clear hh; rintro e v_58 ⟨X, A6, c6, hx6, rfl, hs6, hA6, hbN⟩
      have Hx6 := Lib.hid hx6; clear hx6
      have res_59 := Lib.hid hs6
      clear hs6
      have hfN : Fr (fun _ => False) v_53 v_58 := Fr.of_below hbN
      have hH2 := hHeld.trans (hbN.mono hHeld.size)
      clear hbN
      go_wp2_with fail
      have hHeld := hH2
      clear hH2
      have hz_60 := hfN.size
      have bl_61 := Lib.hid (hfN.row_some bl_56.out (fun h => h))
      clear bl_56
      have fac_62 := Lib.hid (fac_54.out.fr hfN (fun _ _ _ _ h => h))
      clear fac_54
      refine hK.out _ _ hHeld (fun _ => ?_)
      clear hK K hfN
      try simp only [Act.put, List.setIfInBounds_toArray, List.set_cons_zero, List.set_cons_succ]
      refine wpAnyH_take (i := 6) (oi := ⟨some 7, _, _, _, _, _⟩) (v := ?vg6_63) rfl (by kernel_rfl) (by kernel_rfl) (by kernel_rfl) (fun _ _ _ h => h) (Or.inl ⟨by rfl, ?yg6_63⟩) hHeld ?rg6_63
      case yg6_63 =>
        intro wq hSw
        (try dsimp only at hSw)
        first | (go_simp; done) | (go_simp; with_reducible rfl)
      try simp only [Act.put, List.setIfInBounds_toArray, List.set_cons_zero, List.set_cons_succ]
      refine wpAnyH_take (i := 7) (oi := ⟨some 14, _, _, _, _, _⟩) (v := ?vg7_64) rfl (by kernel_rfl) (by kernel_rfl) (by kernel_rfl) (fun _ _ _ h => h) (Or.inl ⟨by rfl, ?yg7_64⟩) hHeld ?rg7_64
      case yg7_64 =>
        intro wq hSw
        (try dsimp only at hSw)
        first | (go_simp; done) | (go_simp; with_reducible rfl)
      try simp only [Act.put, List.setIfInBounds_toArray, List.set_cons_zero, List.set_cons_succ]
      refine wpAnyH_take (i := 8) (oi := ⟨some 15, _, _, _, _, _⟩) (v := ?vg8_65) rfl (by kernel_rfl) (by kernel_rfl) (by kernel_rfl) (fun _ _ _ h => h) (Or.inl ⟨by rfl, ?yg8_65⟩) hHeld ?rg8_65
      case yg8_65 =>
        intro wq hSw
        (try dsimp only at hSw)
        first | (go_simp; done) | (go_simp; with_reducible rfl)
      try simp only [Act.put, List.setIfInBounds_toArray, List.set_cons_zero, List.set_cons_succ]
      refine wpAnyH_ready (rs := [10]) (by kernel_rfl) (by simp) ?_
      refine AllReadyH.cons (o := ⟨none, _, _, _, _, _⟩) rfl (fun K hK => ?_) (AllReadyH.nil)
      have q0 := box0_0 bl_61.out; have q1 := box0_1 bl_61.out; have q2 := box0_2 bl_61.out
      have u0 := box0_free bl_61.out 0; have u1 := box0_free bl_61.out 1; have u2 := box0_free bl_61.out 2
      go_simp
      have hx := box0_set (r := (k : Int)) (c := (k : Int)) (A := A6) (n := (k * k)) (cp := c6) bl_61.out
      have hfN := box0_fr v_58 (v_1.heap.size) (k : Int) (k : Int) A6 (k * k) c6
      have hHeld := hHeld.trans (hfN.below hHeld.size (fun k hk => by have hk : k = v_1.heap.size := hk; omega) |> fun q => q)
      have hz_67 : v_58.heap.size ≤ (((v_58.setCell ⟨v_1.heap.size, 0, none⟩ (.int .i64 (k : Int))).setCell ⟨v_1.heap.size, 1, none⟩ (.int .i64 (k : Int))).setCell ⟨v_1.heap.size, 2, none⟩ (.slice A6 (k * k) c6)).heap.size ∧ (((v_58.setCell ⟨v_1.heap.size, 0, none⟩ (.int .i64 (k : Int))).setCell ⟨v_1.heap.size, 1, none⟩ (.int .i64 (k : Int))).setCell ⟨v_1.heap.size, 2, none⟩ (.slice A6 (k * k) c6)).heap.size ≤ v_58.heap.size := by simp
      obtain ⟨v_66, hw⟩ : ∃ v_66, v_66 = (((v_58.setCell ⟨v_1.heap.size, 0, none⟩ (.int .i64 (k : Int))).setCell ⟨v_1.heap.size, 1, none⟩ (.int .i64 (k : Int))).setCell ⟨v_1.heap.size, 2, none⟩ (.slice A6 (k * k) c6)) := ⟨_, rfl⟩
      rw [← hw] at hHeld hx hfN hz_67 ⊢
      clear hw q0 q1 q2 u0 u1 u2
      clear bl_61
      have fac_68 := Lib.hid (trivial)
      clear fac_62
      have res_69 := Lib.hid (res_59.out.fr hfN (fun b o hn hA hk => by have hk : b = v_1.heap.size := hk; have := hA6 b o hA; omega))
      clear res_59
      have bl_70 := Lib.hid hx
      clear hx
      refine hK.out _ _ hHeld (fun _ => ?_)
      clear hK K hfN
      try simp only [Act.put, List.setIfInBounds_toArray, List.set_cons_zero, List.set_cons_succ]
      refine wpAnyH_take (i := 11) (oi := ⟨some 6, _, _, _, _, _⟩) (v := ?vg11_71) rfl (by kernel_rfl) (by kernel_rfl) (by kernel_rfl) (fun _ _ _ h => h) (Or.inl ⟨by rfl, ?yg11_71⟩) hHeld ?rg11_71
      case yg11_71 =>
        intro wq hSw
        (try dsimp only at hSw)
        first | (go_simp; done) | (go_simp; with_reducible rfl)
      try simp only [Act.put, List.setIfInBounds_toArray, List.set_cons_zero, List.set_cons_succ]
      refine wpAnyH_done (by kernel_rfl) ?_ _
      go_wp2_with fail
      go_ret
      have hx6 := Hx6.out
      have hgd := Hgd.out
      exact ⟨_, _, X, rfl, ⟨hx6, ⟨A6, c6, (hHeld.block _ (block_lt Hg2.out)).trans Hg2.out, bl_70.out, res_69.out, fun b o e => by have := hA6 b o e; omega⟩, by omega, by omega, by omega⟩, Hb2.out.trans (hHeld.mono hsz2)⟩
  · go_simp
    have hbN : Below v_1.heap.size v_1 (v_1.alloc (.cells #[.int .i64 0, .int .i64 0, .slice none 0 0] 112)) := (Below.refl _ _).alloc (Nat.le_refl _) _
    have hx := heap_alloc_new v_1 (.cells #[.int .i64 0, .int .i64 0, .slice none 0 0] 112)
    have hz_73 : v_1.heap.size + 1 ≤ (v_1.alloc (.cells #[.int .i64 0, .int .i64 0, .slice none 0 0] 112)).heap.size ∧ (v_1.alloc (.cells #[.int .i64 0, .int .i64 0, .slice none 0 0] 112)).heap.size ≤ v_1.heap.size + 1 := by simp
    obtain ⟨v_72, hw⟩ : ∃ v_72, v_72 = v_1.alloc (.cells #[.int .i64 0, .int .i64 0, .slice none 0 0] 112) := ⟨_, rfl⟩
    rw [← hw] at hbN hx hz_73 ⊢
    clear hw
    have hHeld := hHeld.trans (hbN.mono hHeld.size)
    have hfN : Fr (fun _ => False) v_1 v_72 := Fr.of_below hbN
    clear hbN
    have bl_74 := Lib.hid hx
    clear hx
    refine hK.out _ _ hHeld (fun _ => ?_)
    clear hK K hfN
    try simp only [Act.put, List.setIfInBounds_toArray, List.set_cons_zero, List.set_cons_succ]
    refine wpAnyH_ready (rs := [1]) (by kernel_rfl) (by simp) ?_
    refine AllReadyH.cons (o := ⟨some 9, _, _, _, _, _⟩) rfl (fun K hK => ?_) (AllReadyH.nil)
    go_simp
    have hh := cf_any C k m F T v_72 (H2.out.later hHeld)
    refine hh.mono ?_; clear hh; rintro e wn ⟨rfl, hwn⟩
    rw [hwn]; clear hwn wn
    have hfN : Fr (fun _ => False) v_72 v_72 := Fr.refl _ _
    have hH2 := hHeld
    go_wp2_with fail
    have hHeld := hH2
    clear hH2
    have hz_76 := hfN.size
    have bl_77 := Lib.hid (hfN.row_some bl_74.out (fun h => h))
    clear bl_74
    refine hK.out _ _ hHeld (fun _ => ?_)
    clear hK K hfN
    try simp only [Act.put, List.setIfInBounds_toArray, List.set_cons_zero, List.set_cons_succ]
    refine wpAnyH_ready (rs := [4]) (by kernel_rfl) (by simp) ?_
    refine AllReadyH.cons (o := ⟨some 12, _, _, _, _, _⟩) rfl (fun K hK => ?_) (AllReadyH.nil)
    go_simp
    have hh := drowsOf_any C k m F T B k d t v_72 (H2.out.later hHeld) (Hs2.out.below hHeld (Nat.le_refl _)) Ht.out (by omega)
    refine hh.mono ?_; clear hh; rintro e v_79 ⟨⟨A2, c2, rfl, hG⟩, hbN⟩
    have hA2 : ∀ b o, A2 = some ⟨b, o, none⟩ → v_72.heap.size ≤ b := fun b o e => grow_new hG (hkk) e
    have fac_80 := Lib.hid hG.own.sl
    clear hG
    have hfN : Fr (fun _ => False) v_72 v_79 := Fr.of_below hbN
    have hH2 := hHeld.trans (hbN.mono hHeld.size)
    clear hbN
    go_wp2_with fail
    have hHeld := hH2
    clear hH2
    have hz_81 := hfN.size
    have bl_82 := Lib.hid (hfN.row_some bl_77.out (fun h => h))
    clear bl_77
    refine hK.out _ _ hHeld (fun _ => ?_)
    clear hK K hfN
    try simp only [Act.put, List.setIfInBounds_toArray, List.set_cons_zero, List.set_cons_succ]
    refine wpAnyH_ready (rs := [5]) (by kernel_rfl) (by simp) ?_
    refine AllReadyH.cons (o := ⟨some 13, _, _, _, _, _⟩) rfl (fun K hK => ?_) (AllReadyH.nil)
    go_simp
    have hh := inv_at C k m F T A2 c2 t v_79 (H2.out.later hHeld) fac_80.out (fun b o hn e => by have := hA2 b o e; have := hHeld.size; omega) Ht.out Hd.out
    refine hh.mono ?_; clear hh; rintro e v_84 ⟨X, A6, c6, hx6, rfl, hs6, hA6, hbN⟩
    have Hx6 := Lib.hid hx6; clear hx6
    have res_85 := Lib.hid hs6
    clear hs6
    have hfN : Fr (fun _ => False) v_79 v_84 := Fr.of_below hbN
    have hH2 := hHeld.trans (hbN.mono hHeld.size)
    clear hbN
    go_wp2_with fail
    have hHeld := hH2
    clear hH2
    have hz_86 := hfN.size
    have bl_87 := Lib.hid (hfN.row_some bl_82.out (fun h => h))
    clear bl_82
    have fac_88 := Lib.hid (fac_80.out.fr hfN (fun _ _ _ _ h => h))
    clear fac_80
    refine hK.out _ _ hHeld (fun _ => ?_)
    clear hK K hfN
    try simp only [Act.put, List.setIfInBounds_toArray, List.set_cons_zero, List.set_cons_succ]
    refine wpAnyH_take (i := 6) (oi := ⟨some 7, _, _, _, _, _⟩) (v := ?vg6_89) rfl (by kernel_rfl) (by kernel_rfl) (by kernel_rfl) (fun _ _ _ h => h) (Or.inl ⟨by rfl, ?yg6_89⟩) hHeld ?rg6_89
    case yg6_89 =>
      intro wq hSw
      (try dsimp only at hSw)
      first | (go_simp; done) | (go_simp; with_reducible rfl)
    try simp only [Act.put, List.setIfInBounds_toArray, List.set_cons_zero, List.set_cons_succ]
    refine wpAnyH_take (i := 7) (oi := ⟨some 14, _, _, _, _, _⟩) (v := ?vg7_90) rfl (by kernel_rfl) (by kernel_rfl) (by kernel_rfl) (fun _ _ _ h => h) (Or.inl ⟨by rfl, ?yg7_90⟩) hHeld ?rg7_90
    case yg7_90 =>
      intro wq hSw
      (try dsimp only at hSw)
      first | (go_simp; done) | (go_simp; with_reducible rfl)
    try simp only [Act.put, List.setIfInBounds_toArray, List.set_cons_zero, List.set_cons_succ]
    refine wpAnyH_take (i := 8) (oi := ⟨some 15, _, _, _, _, _⟩) (v := ?vg8_91) rfl (by kernel_rfl) (by kernel_rfl) (by kernel_rfl) (fun _ _ _ h => h) (Or.inl ⟨by rfl, ?yg8_91⟩) hHeld ?rg8_91
    case yg8_91 =>
      intro wq hSw
      (try dsimp only at hSw)
      first | (go_simp; done) | (go_simp; with_reducible rfl)
    try simp only [Act.put, List.setIfInBounds_toArray, List.set_cons_zero, List.set_cons_succ]
    refine wpAnyH_ready (rs := [10]) (by kernel_rfl) (by simp) ?_
    refine AllReadyH.cons (o := ⟨none, _, _, _, _, _⟩) rfl (fun K hK => ?_) (AllReadyH.nil)
    have q0 := box0_0 bl_87.out; have q1 := box0_1 bl_87.out; have q2 := box0_2 bl_87.out
    have u0 := box0_free bl_87.out 0; have u1 := box0_free bl_87.out 1; have u2 := box0_free bl_87.out 2
    go_simp
    have hx := box0_set (r := (k : Int)) (c := (k : Int)) (A := A6) (n := (k * k)) (cp := c6) bl_87.out
    have hfN := box0_fr v_84 (v_1.heap.size) (k : Int) (k : Int) A6 (k * k) c6
    have hHeld := hHeld.trans (hfN.below hHeld.size (fun k hk => by have hk : k = v_1.heap.size := hk; omega) |> fun q => q)
    have hz_93 : v_84.heap.size ≤ (((v_84.setCell ⟨v_1.heap.size, 0, none⟩ (.int .i64 (k : Int))).setCell ⟨v_1.heap.size, 1, none⟩ (.int .i64 (k : Int))).setCell ⟨v_1.heap.size, 2, none⟩ (.slice A6 (k * k) c6)).heap.size ∧ (((v_84.setCell ⟨v_1.heap.size, 0, none⟩ (.int .i64 (k : Int))).setCell ⟨v_1.heap.size, 1, none⟩ (.int .i64 (k : Int))).setCell ⟨v_1.heap.size, 2, none⟩ (.slice A6 (k * k) c6)).heap.size ≤ v_84.heap.size := by simp
    obtain ⟨v_92, hw⟩ : ∃ v_92, v_92 = (((v_84.setCell ⟨v_1.heap.size, 0, none⟩ (.int .i64 (k : Int))).setCell ⟨v_1.heap.size, 1, none⟩ (.int .i64 (k : Int))).setCell ⟨v_1.heap.size, 2, none⟩ (.slice A6 (k * k) c6)) := ⟨_, rfl⟩
    rw [← hw] at hHeld hx hfN hz_93 ⊢
    clear hw q0 q1 q2 u0 u1 u2
    clear bl_87
    have fac_94 := Lib.hid (trivial)
    clear fac_88
    have res_95 := Lib.hid (res_85.out.fr hfN (fun b o hn hA hk => by have hk : b = v_1.heap.size := hk; have := hA6 b o hA; omega))
    clear res_85
    have bl_96 := Lib.hid hx
    clear hx
    refine hK.out _ _ hHeld (fun _ => ?_)
    clear hK K hfN
    try simp only [Act.put, List.setIfInBounds_toArray, List.set_cons_zero, List.set_cons_succ]
    refine wpAnyH_take (i := 11) (oi := ⟨some 6, _, _, _, _, _⟩) (v := ?vg11_97) rfl (by kernel_rfl) (by kernel_rfl) (by kernel_rfl) (fun _ _ _ h => h) (Or.inl ⟨by rfl, ?yg11_97⟩) hHeld ?rg11_97
    case yg11_97 =>
      intro wq hSw
      (try dsimp only at hSw)
      first | (go_simp; done) | (go_simp; with_reducible rfl)
    try simp only [Act.put, List.setIfInBounds_toArray, List.set_cons_zero, List.set_cons_succ]
    refine wpAnyH_done (by kernel_rfl) ?_ _
    go_wp2_with fail
    go_ret
    have hx6 := Hx6.out
    have hgd := Hgd.out
    exact ⟨_, _, X, rfl, ⟨hx6, ⟨A6, c6, (hHeld.block _ (block_lt Hg2.out)).trans Hg2.out, bl_96.out, res_95.out, fun b o e => by have := hA6 b o e; omega⟩, by omega, by omega, by omega⟩, Hb2.out.trans (hHeld.mono hsz2)⟩

set_option maxRecDepth 20000 in
set_option maxHeartbeats 3200000 in
theorem planned_any (B C k m F T g2 g5 x : Nat) (t : List Nat) (X : Mx) (w : World) (h : Cod w C k m F T) (hp : Pln w B C k T g2 g5 t X) (hx : x < k + m) :
    Calls Tryz.prog 63 #[.int .i64 (x : Int), .pointer (some ⟨g2, 0, none⟩), .pointer (some ⟨g5, 0, none⟩)] w fun e w' => ∃ A c, e = .returned (.slice A k c) ∧ Sl w' 1 A k c (cells (planL k X x)) ∧ Below w.heap.size w w' := by
  have h1 := h.k1
  have hk1 : 0 < k := by omega
  have hT := h.fld.fld.ltT
  obtain ⟨A5, c5, hg2, hg5, hs5, hof⟩ := hp.ex
  have hTB := hp.hT
  have hoff5 : Off T A5 (k * k) := fun b o _ e => by have := hof b o e; omega
  have k2 := cell_of_one hg2
  have H2 := Lib.hid h
  have Hg5 := Lib.hid hg5
  have Hs5 := Lib.hid hs5
  have Hoff5 := Lib.hid hoff5
  have K2 := Lib.hid k2
  clear h hp hg2 hg5 hs5 hoff5 k2 hof hTB
  go_enter Tryz.func63, Tryz.ntmps63
  go_upto_region 1 with (fail)
  refine wp_region_held_drew (S := fun w' => Below w.heap.size w w') (by kernel_rfl) (Below.drew (Below.refl _ _)) (fun hHeld => ?_)
  clear hHeld
  have hHeld : Below w.heap.size w w.drew := Below.drew (Below.refl _ _)
  have hz_0 : w.heap.size ≤ w.drew.heap.size ∧ w.drew.heap.size ≤ w.heap.size := ⟨Nat.le_refl _, Nat.le_refl _⟩
  obtain ⟨v_501, hw⟩ : ∃ v_501, v_501 = w.drew := ⟨_, rfl⟩
  rw [← hw] at hHeld hz_0 ⊢
  clear hw
  refine wpAnyH_take (i := 0) (oi := ⟨some 8, _, _, _, _, _⟩) (v := ?vg0_502) rfl (by kernel_rfl) (by kernel_rfl) (by kernel_rfl) (fun _ _ _ h => h) (Or.inl ⟨by rfl, ?yg0_502⟩) hHeld ?rg0_502
  case yg0_502 =>
    intro wq hSw
    (try dsimp only at hSw)
    have q0 := (hSw.cell (World.block_lt_of_cell? w _ K2.out)).trans K2.out
    first | (go_simp; done) | (go_simp; with_reducible rfl)
  try simp only [Act.put, List.setIfInBounds_toArray, List.set_cons_zero, List.set_cons_succ]
  refine wpAnyH_take (i := 2) (oi := ⟨some 10, _, _, _, _, _⟩) (v := ?vg2_503) rfl (by kernel_rfl) (by kernel_rfl) (by kernel_rfl) (fun _ _ _ h => h) (Or.inl ⟨by rfl, ?yg2_503⟩) hHeld ?rg2_503
  case yg2_503 =>
    intro wq hSw
    (try dsimp only at hSw)
    have q0 := (hSw.cell (World.block_lt_of_cell? w _ K2.out)).trans K2.out
    first | (go_simp; done) | (go_simp; with_reducible rfl)
  try simp only [Act.put, List.setIfInBounds_toArray, List.set_cons_zero, List.set_cons_succ]
  refine wpAnyH_take (i := 3) (oi := ⟨some 11, _, _, _, _, _⟩) (v := ?vg3_504) rfl (by kernel_rfl) (by kernel_rfl) (by kernel_rfl) (fun _ _ _ h => h) (Or.inl ⟨by rfl, ?yg3_504⟩) hHeld ?rg3_504
  case yg3_504 =>
    intro wq hSw
    (try dsimp only at hSw)
    first | (go_simp; done) | (go_simp; with_reducible rfl)
  try simp only [Act.put, List.setIfInBounds_toArray, List.set_cons_zero, List.set_cons_succ]
  refine wpAnyH_take (i := 6) (oi := ⟨some 14, _, _, _, _, _⟩) (v := ?vg6_505) rfl (by kernel_rfl) (by kernel_rfl) (by kernel_rfl) (fun _ _ _ h => h) (Or.inl ⟨by rfl, ?yg6_505⟩) hHeld ?rg6_505
  case yg6_505 =>
    intro wq hSw
    (try dsimp only at hSw)
    have hx := (hSw.block _ (block_lt Hg5.out)).trans Hg5.out
    have q0 := boxM_0 hx; have q1 := boxM_1 hx; have q2 := boxM_2 hx
    clear hx
    first | (go_simp; done) | (go_simp; with_reducible rfl)
  try simp only [Act.put, List.setIfInBounds_toArray, List.set_cons_zero, List.set_cons_succ]
  refine wpAnyH_ready (rs := [1, 4, 11]) (by kernel_rfl) (by simp) ?_
  refine AllReadyH.cons (o := ⟨some 9, _, _, _, _, _⟩) rfl (fun K hK => ?_) (AllReadyH.cons (o := ⟨some 12, _, _, _, _, _⟩) rfl (fun K hK => ?_) (AllReadyH.cons (o := ⟨some 5, _, _, _, _, _⟩) rfl (fun K hK => ?_) (AllReadyH.nil)))
  · go_simp
    have hh := cf_any C k m F T v_501 (H2.out.later hHeld)
    refine hh.mono ?_; clear hh; rintro e wn ⟨rfl, hwn⟩
    rw [hwn]; clear hwn wn
    have hfN : Fr (fun _ => False) v_501 v_501 := Fr.refl _ _
    have hH2 := hHeld
    go_wp2_with fail
    have hHeld := hH2
    clear hH2
    have hz_507 := hfN.size
    refine hK.out _ _ hHeld (fun _ => ?_)
    clear hK K hfN
    try simp only [Act.put, List.setIfInBounds_toArray, List.set_cons_zero, List.set_cons_succ]
    refine wpAnyH_ready (rs := [4, 11]) (by kernel_rfl) (by simp) ?_
    refine AllReadyH.cons (o := ⟨some 12, _, _, _, _, _⟩) rfl (fun K hK => ?_) (AllReadyH.cons (o := ⟨some 5, _, _, _, _, _⟩) rfl (fun K hK => ?_) (AllReadyH.nil))
    · go_simp
      have hbN : Below v_501.heap.size v_501 (v_501.alloc (.cells #[.int .i64 (x : Int)] 3)) := (Below.refl _ _).alloc (Nat.le_refl _) _
      have hx := heap_alloc_new v_501 (.cells #[.int .i64 (x : Int)] 3)
      have hz_509 : v_501.heap.size + 1 ≤ (v_501.alloc (.cells #[.int .i64 (x : Int)] 3)).heap.size ∧ (v_501.alloc (.cells #[.int .i64 (x : Int)] 3)).heap.size ≤ v_501.heap.size + 1 := by simp
      obtain ⟨v_508, hw⟩ : ∃ v_508, v_508 = v_501.alloc (.cells #[.int .i64 (x : Int)] 3) := ⟨_, rfl⟩
      rw [← hw] at hbN hx hz_509 ⊢
      clear hw
      have hHeld := hHeld.trans (hbN.mono hHeld.size)
      have hfN : Fr (fun _ => False) v_501 v_508 := Fr.of_below hbN
      clear hbN
      have bl_510 := Lib.hid hx
      clear hx
      refine hK.out _ _ hHeld (fun _ => ?_)
      clear hK K hfN
      try simp only [Act.put, List.setIfInBounds_toArray, List.set_cons_zero, List.set_cons_succ]
      refine wpAnyH_ready (rs := [5, 11]) (by kernel_rfl) (by simp) ?_
      refine AllReadyH.cons (o := ⟨some 13, _, _, _, _, _⟩) rfl (fun K hK => ?_) (AllReadyH.cons (o := ⟨some 5, _, _, _, _, _⟩) rfl (fun K hK => ?_) (AllReadyH.nil))
      · go_simp
        have hh := drowsOf_one C k m F T (some ⟨v_501.heap.size, 0, none⟩) 1 x v_508 (H2.out.later hHeld) (sl_oneN bl_510.out) hx
        refine hh.mono ?_; clear hh; rintro e v_512 ⟨⟨A2, c2, rfl, hG⟩, hbN⟩
        have hA2 : ∀ b o, A2 = some ⟨b, o, none⟩ → v_508.heap.size ≤ b := fun b o e => grow_new hG (hk1) e
        have fac_513 := Lib.hid hG.own.sl
        clear hG
        have hfN : Fr (fun _ => False) v_508 v_512 := Fr.of_below hbN
        have hH2 := hHeld.trans (hbN.mono hHeld.size)
        clear hbN
        go_wp2_with fail
        have hHeld := hH2
        clear hH2
        have hz_514 := hfN.size
        have bl_515 := Lib.hid (hfN.row_some bl_510.out (fun h => h))
        clear bl_510
        refine hK.out _ _ hHeld (fun _ => ?_)
        clear hK K hfN
        try simp only [Act.put, List.setIfInBounds_toArray, List.set_cons_zero, List.set_cons_succ]
        refine wpAnyH_ready (rs := [7, 11]) (by kernel_rfl) (by simp) ?_
        refine AllReadyH.cons (o := ⟨some 15, _, _, _, _, _⟩) rfl (fun K hK => ?_) (AllReadyH.cons (o := ⟨some 5, _, _, _, _, _⟩) rfl (fun K hK => ?_) (AllReadyH.nil))
        · go_simp
          have hh := mul_at C k m F T A2 c2 x A5 c5 X v_512 (H2.out.later hHeld) fac_513.out (fun b o hn e => by have := hA2 b o e; have := hHeld.size; omega) (Hs5.out.below hHeld (Nat.le_refl _)) Hoff5.out
          refine hh.mono ?_; clear hh; rintro e v_517 ⟨A6, c6, rfl, hs6, hA6, hbN⟩
          have res_518 := Lib.hid hs6
          clear hs6
          have hfN : Fr (fun _ => False) v_512 v_517 := Fr.of_below hbN
          have hH2 := hHeld.trans (hbN.mono hHeld.size)
          clear hbN
          go_wp2_with fail
          have hHeld := hH2
          clear hH2
          have hz_519 := hfN.size
          have bl_520 := Lib.hid (hfN.row_some bl_515.out (fun h => h))
          clear bl_515
          have fac_521 := Lib.hid (fac_513.out.fr hfN (fun _ _ _ _ h => h))
          clear fac_513
          refine hK.out _ _ hHeld (fun _ => ?_)
          clear hK K hfN
          try simp only [Act.put, List.setIfInBounds_toArray, List.set_cons_zero, List.set_cons_succ]
          refine wpAnyH_take (i := 8) (oi := ⟨some 7, _, _, _, _, _⟩) (v := ?vg8_522) rfl (by kernel_rfl) (by kernel_rfl) (by kernel_rfl) (fun _ _ _ h => h) (Or.inl ⟨by rfl, ?yg8_522⟩) hHeld ?rg8_522
          case yg8_522 =>
            intro wq hSw
            (try dsimp only at hSw)
            first | (go_simp; done) | (go_simp; with_reducible rfl)
          try simp only [Act.put, List.setIfInBounds_toArray, List.set_cons_zero, List.set_cons_succ]
          refine wpAnyH_take (i := 9) (oi := ⟨some 16, _, _, _, _, _⟩) (v := ?vg9_523) rfl (by kernel_rfl) (by kernel_rfl) (by kernel_rfl) (fun _ _ _ h => h) (Or.inl ⟨by rfl, ?yg9_523⟩) hHeld ?rg9_523
          case yg9_523 =>
            intro wq hSw
            (try dsimp only at hSw)
            first | (go_simp; done) | (go_simp; with_reducible rfl)
          try simp only [Act.put, List.setIfInBounds_toArray, List.set_cons_zero, List.set_cons_succ]
          refine wpAnyH_take (i := 10) (oi := ⟨some 17, _, _, _, _, _⟩) (v := ?vg10_524) rfl (by kernel_rfl) (by kernel_rfl) (by kernel_rfl) (fun _ _ _ h => h) (Or.inl ⟨by rfl, ?yg10_524⟩) hHeld ?rg10_524
          case yg10_524 =>
            intro wq hSw
            (try dsimp only at hSw)
            first | (go_simp; done) | (go_simp; with_reducible rfl)
          try simp only [Act.put, List.setIfInBounds_toArray, List.set_cons_zero, List.set_cons_succ]
          refine wpAnyH_ready (rs := [11]) (by kernel_rfl) (by simp) ?_
          refine AllReadyH.cons (o := ⟨some 5, _, _, _, _, _⟩) rfl (fun K hK => ?_) (AllReadyH.nil)
          go_simp
          have hbN : Below v_517.heap.size v_517 (v_517.alloc (.cells #[.int .i64 0, .int .i64 0, .slice none 0 0] 112)) := (Below.refl _ _).alloc (Nat.le_refl _) _
          have hx := heap_alloc_new v_517 (.cells #[.int .i64 0, .int .i64 0, .slice none 0 0] 112)
          have hz_526 : v_517.heap.size + 1 ≤ (v_517.alloc (.cells #[.int .i64 0, .int .i64 0, .slice none 0 0] 112)).heap.size ∧ (v_517.alloc (.cells #[.int .i64 0, .int .i64 0, .slice none 0 0] 112)).heap.size ≤ v_517.heap.size + 1 := by simp
          obtain ⟨v_525, hw⟩ : ∃ v_525, v_525 = v_517.alloc (.cells #[.int .i64 0, .int .i64 0, .slice none 0 0] 112) := ⟨_, rfl⟩
          rw [← hw] at hbN hx hz_526 ⊢
          clear hw
          have hHeld := hHeld.trans (hbN.mono hHeld.size)
          have hfN : Fr (fun _ => False) v_517 v_525 := Fr.of_below hbN
          clear hbN
          have bl_527 := Lib.hid (hfN.row_some bl_520.out (fun h => h))
          clear bl_520
          have fac_528 := Lib.hid (fac_521.out.fr hfN (fun _ _ _ _ h => h))
          clear fac_521
          have res_529 := Lib.hid (res_518.out.fr hfN (fun _ _ _ _ h => h))
          clear res_518
          have bl_530 := Lib.hid hx
          clear hx
          refine hK.out _ _ hHeld (fun _ => ?_)
          clear hK K hfN
          try simp only [Act.put, List.setIfInBounds_toArray, List.set_cons_zero, List.set_cons_succ]
          refine wpAnyH_ready (rs := [12]) (by kernel_rfl) (by simp) ?_
          refine AllReadyH.cons (o := ⟨none, _, _, _, _, _⟩) rfl (fun K hK => ?_) (AllReadyH.nil)
          have q0 := box0_0 bl_530.out; have q1 := box0_1 bl_530.out; have q2 := box0_2 bl_530.out
          have u0 := box0_free bl_530.out 0; have u1 := box0_free bl_530.out 1; have u2 := box0_free bl_530.out 2
          go_simp
          have hx := box0_set (r := 1) (c := (k : Int)) (A := A6) (n := k) (cp := c6) bl_530.out
          have hfN := box0_fr v_525 (v_517.heap.size) 1 (k : Int) A6 k c6
          have hHeld := hHeld.trans (hfN.below hHeld.size (fun k hk => by have hk : k = v_517.heap.size := hk; omega) |> fun q => q)
          have hz_532 : v_525.heap.size ≤ (((v_525.setCell ⟨v_517.heap.size, 0, none⟩ (.int .i64 1)).setCell ⟨v_517.heap.size, 1, none⟩ (.int .i64 (k : Int))).setCell ⟨v_517.heap.size, 2, none⟩ (.slice A6 k c6)).heap.size ∧ (((v_525.setCell ⟨v_517.heap.size, 0, none⟩ (.int .i64 1)).setCell ⟨v_517.heap.size, 1, none⟩ (.int .i64 (k : Int))).setCell ⟨v_517.heap.size, 2, none⟩ (.slice A6 k c6)).heap.size ≤ v_525.heap.size := by simp
          obtain ⟨v_531, hw⟩ : ∃ v_531, v_531 = (((v_525.setCell ⟨v_517.heap.size, 0, none⟩ (.int .i64 1)).setCell ⟨v_517.heap.size, 1, none⟩ (.int .i64 (k : Int))).setCell ⟨v_517.heap.size, 2, none⟩ (.slice A6 k c6)) := ⟨_, rfl⟩
          rw [← hw] at hHeld hx hfN hz_532 ⊢
          clear hw q0 q1 q2 u0 u1 u2
          have bl_533 := Lib.hid (hfN.row_some bl_527.out (fun h => by have h : v_501.heap.size = v_517.heap.size := h; omega))
          clear bl_527
          have fac_534 := Lib.hid (trivial)
          clear fac_528
          have res_535 := Lib.hid (res_529.out.fr hfN (fun b o hn hA hk => by have hk : b = v_517.heap.size := hk; have := hA6 b o hA; omega))
          clear res_529
          clear bl_530
          have bl_536 := Lib.hid hx
          clear hx
          refine hK.out _ _ hHeld (fun _ => ?_)
          clear hK K hfN
          try simp only [Act.put, List.setIfInBounds_toArray, List.set_cons_zero, List.set_cons_succ]
          refine wpAnyH_take (i := 13) (oi := ⟨some 6, _, _, _, _, _⟩) (v := ?vg13_537) rfl (by kernel_rfl) (by kernel_rfl) (by kernel_rfl) (fun _ _ _ h => h) (Or.inl ⟨by rfl, ?yg13_537⟩) hHeld ?rg13_537
          case yg13_537 =>
            intro wq hSw
            (try dsimp only at hSw)
            first | (go_simp; done) | (go_simp; with_reducible rfl)
          try simp only [Act.put, List.setIfInBounds_toArray, List.set_cons_zero, List.set_cons_succ]
          refine wpAnyH_done (by kernel_rfl) ?_ _
          have q2 := boxM_2 bl_536.out
          go_wp2_with fail
          go_ret
          exact ⟨A6, c6, rfl, res_535.out, hHeld⟩
        · go_simp
          have hbN : Below v_512.heap.size v_512 (v_512.alloc (.cells #[.int .i64 0, .int .i64 0, .slice none 0 0] 112)) := (Below.refl _ _).alloc (Nat.le_refl _) _
          have hx := heap_alloc_new v_512 (.cells #[.int .i64 0, .int .i64 0, .slice none 0 0] 112)
          have hz_539 : v_512.heap.size + 1 ≤ (v_512.alloc (.cells #[.int .i64 0, .int .i64 0, .slice none 0 0] 112)).heap.size ∧ (v_512.alloc (.cells #[.int .i64 0, .int .i64 0, .slice none 0 0] 112)).heap.size ≤ v_512.heap.size + 1 := by simp
          obtain ⟨v_538, hw⟩ : ∃ v_538, v_538 = v_512.alloc (.cells #[.int .i64 0, .int .i64 0, .slice none 0 0] 112) := ⟨_, rfl⟩
          rw [← hw] at hbN hx hz_539 ⊢
          clear hw
          have hHeld := hHeld.trans (hbN.mono hHeld.size)
          have hfN : Fr (fun _ => False) v_512 v_538 := Fr.of_below hbN
          clear hbN
          have bl_540 := Lib.hid (hfN.row_some bl_515.out (fun h => h))
          clear bl_515
          have fac_541 := Lib.hid (fac_513.out.fr hfN (fun _ _ _ _ h => h))
          clear fac_513
          have bl_542 := Lib.hid hx
          clear hx
          refine hK.out _ _ hHeld (fun _ => ?_)
          clear hK K hfN
          try simp only [Act.put, List.setIfInBounds_toArray, List.set_cons_zero, List.set_cons_succ]
          refine wpAnyH_ready (rs := [7]) (by kernel_rfl) (by simp) ?_
          refine AllReadyH.cons (o := ⟨some 15, _, _, _, _, _⟩) rfl (fun K hK => ?_) (AllReadyH.nil)
          go_simp
          have hh := mul_at C k m F T A2 c2 x A5 c5 X v_538 (H2.out.later hHeld) fac_541.out (fun b o hn e => by have := hA2 b o e; have := hHeld.size; omega) (Hs5.out.below hHeld (Nat.le_refl _)) Hoff5.out
          refine hh.mono ?_; clear hh; rintro e v_544 ⟨A6, c6, rfl, hs6, hA6, hbN⟩
          have res_545 := Lib.hid hs6
          clear hs6
          have hfN : Fr (fun _ => False) v_538 v_544 := Fr.of_below hbN
          have hH2 := hHeld.trans (hbN.mono hHeld.size)
          clear hbN
          go_wp2_with fail
          have hHeld := hH2
          clear hH2
          have hz_546 := hfN.size
          have bl_547 := Lib.hid (hfN.row_some bl_540.out (fun h => h))
          clear bl_540
          have fac_548 := Lib.hid (fac_541.out.fr hfN (fun _ _ _ _ h => h))
          clear fac_541
          have bl_549 := Lib.hid (hfN.row_some bl_542.out (fun h => h))
          clear bl_542
          refine hK.out _ _ hHeld (fun _ => ?_)
          clear hK K hfN
          try simp only [Act.put, List.setIfInBounds_toArray, List.set_cons_zero, List.set_cons_succ]
          refine wpAnyH_take (i := 8) (oi := ⟨some 7, _, _, _, _, _⟩) (v := ?vg8_550) rfl (by kernel_rfl) (by kernel_rfl) (by kernel_rfl) (fun _ _ _ h => h) (Or.inl ⟨by rfl, ?yg8_550⟩) hHeld ?rg8_550
          case yg8_550 =>
            intro wq hSw
            (try dsimp only at hSw)
            first | (go_simp; done) | (go_simp; with_reducible rfl)
          try simp only [Act.put, List.setIfInBounds_toArray, List.set_cons_zero, List.set_cons_succ]
          refine wpAnyH_take (i := 9) (oi := ⟨some 16, _, _, _, _, _⟩) (v := ?vg9_551) rfl (by kernel_rfl) (by kernel_rfl) (by kernel_rfl) (fun _ _ _ h => h) (Or.inl ⟨by rfl, ?yg9_551⟩) hHeld ?rg9_551
          case yg9_551 =>
            intro wq hSw
            (try dsimp only at hSw)
            first | (go_simp; done) | (go_simp; with_reducible rfl)
          try simp only [Act.put, List.setIfInBounds_toArray, List.set_cons_zero, List.set_cons_succ]
          refine wpAnyH_take (i := 10) (oi := ⟨some 17, _, _, _, _, _⟩) (v := ?vg10_552) rfl (by kernel_rfl) (by kernel_rfl) (by kernel_rfl) (fun _ _ _ h => h) (Or.inl ⟨by rfl, ?yg10_552⟩) hHeld ?rg10_552
          case yg10_552 =>
            intro wq hSw
            (try dsimp only at hSw)
            first | (go_simp; done) | (go_simp; with_reducible rfl)
          try simp only [Act.put, List.setIfInBounds_toArray, List.set_cons_zero, List.set_cons_succ]
          refine wpAnyH_ready (rs := [12]) (by kernel_rfl) (by simp) ?_
          refine AllReadyH.cons (o := ⟨none, _, _, _, _, _⟩) rfl (fun K hK => ?_) (AllReadyH.nil)
          have q0 := box0_0 bl_549.out; have q1 := box0_1 bl_549.out; have q2 := box0_2 bl_549.out
          have u0 := box0_free bl_549.out 0; have u1 := box0_free bl_549.out 1; have u2 := box0_free bl_549.out 2
          go_simp
          have hx := box0_set (r := 1) (c := (k : Int)) (A := A6) (n := k) (cp := c6) bl_549.out
          have hfN := box0_fr v_544 (v_512.heap.size) 1 (k : Int) A6 k c6
          have hHeld := hHeld.trans (hfN.below hHeld.size (fun k hk => by have hk : k = v_512.heap.size := hk; omega) |> fun q => q)
          have hz_554 : v_544.heap.size ≤ (((v_544.setCell ⟨v_512.heap.size, 0, none⟩ (.int .i64 1)).setCell ⟨v_512.heap.size, 1, none⟩ (.int .i64 (k : Int))).setCell ⟨v_512.heap.size, 2, none⟩ (.slice A6 k c6)).heap.size ∧ (((v_544.setCell ⟨v_512.heap.size, 0, none⟩ (.int .i64 1)).setCell ⟨v_512.heap.size, 1, none⟩ (.int .i64 (k : Int))).setCell ⟨v_512.heap.size, 2, none⟩ (.slice A6 k c6)).heap.size ≤ v_544.heap.size := by simp
          obtain ⟨v_553, hw⟩ : ∃ v_553, v_553 = (((v_544.setCell ⟨v_512.heap.size, 0, none⟩ (.int .i64 1)).setCell ⟨v_512.heap.size, 1, none⟩ (.int .i64 (k : Int))).setCell ⟨v_512.heap.size, 2, none⟩ (.slice A6 k c6)) := ⟨_, rfl⟩
          rw [← hw] at hHeld hx hfN hz_554 ⊢
          clear hw q0 q1 q2 u0 u1 u2
          have bl_555 := Lib.hid (hfN.row_some bl_547.out (fun h => by have h : v_501.heap.size = v_512.heap.size := h; omega))
          clear bl_547
          have fac_556 := Lib.hid (trivial)
          clear fac_548
          clear bl_549
          have res_557 := Lib.hid (res_545.out.fr hfN (fun b o hn hA hk => by have hk : b = v_512.heap.size := hk; have := hA6 b o hA; omega))
          clear res_545
          have bl_558 := Lib.hid hx
          clear hx
          refine hK.out _ _ hHeld (fun _ => ?_)
          clear hK K hfN
          try simp only [Act.put, List.setIfInBounds_toArray, List.set_cons_zero, List.set_cons_succ]
          refine wpAnyH_take (i := 13) (oi := ⟨some 6, _, _, _, _, _⟩) (v := ?vg13_559) rfl (by kernel_rfl) (by kernel_rfl) (by kernel_rfl) (fun _ _ _ h => h) (Or.inl ⟨by rfl, ?yg13_559⟩) hHeld ?rg13_559
          case yg13_559 =>
            intro wq hSw
            (try dsimp only at hSw)
            first | (go_simp; done) | (go_simp; with_reducible rfl)
          try simp only [Act.put, List.setIfInBounds_toArray, List.set_cons_zero, List.set_cons_succ]
          refine wpAnyH_done (by kernel_rfl) ?_ _
          have q2 := boxM_2 bl_558.out
          go_wp2_with fail
          go_ret
          exact ⟨A6, c6, rfl, res_557.out, hHeld⟩
      · go_simp
        have hbN : Below v_508.heap.size v_508 (v_508.alloc (.cells #[.int .i64 0, .int .i64 0, .slice none 0 0] 112)) := (Below.refl _ _).alloc (Nat.le_refl _) _
        have hx := heap_alloc_new v_508 (.cells #[.int .i64 0, .int .i64 0, .slice none 0 0] 112)
        have hz_561 : v_508.heap.size + 1 ≤ (v_508.alloc (.cells #[.int .i64 0, .int .i64 0, .slice none 0 0] 112)).heap.size ∧ (v_508.alloc (.cells #[.int .i64 0, .int .i64 0, .slice none 0 0] 112)).heap.size ≤ v_508.heap.size + 1 := by simp
        obtain ⟨v_560, hw⟩ : ∃ v_560, v_560 = v_508.alloc (.cells #[.int .i64 0, .int .i64 0, .slice none 0 0] 112) := ⟨_, rfl⟩
        rw [← hw] at hbN hx hz_561 ⊢
        clear hw
        have hHeld := hHeld.trans (hbN.mono hHeld.size)
        have hfN : Fr (fun _ => False) v_508 v_560 := Fr.of_below hbN
        clear hbN
        have bl_562 := Lib.hid (hfN.row_some bl_510.out (fun h => h))
        clear bl_510
        have bl_563 := Lib.hid hx
        clear hx
        refine hK.out _ _ hHeld (fun _ => ?_)
        clear hK K hfN
        try simp only [Act.put, List.setIfInBounds_toArray, List.set_cons_zero, List.set_cons_succ]
        refine wpAnyH_ready (rs := [5]) (by kernel_rfl) (by simp) ?_
        refine AllReadyH.cons (o := ⟨some 13, _, _, _, _, _⟩) rfl (fun K hK => ?_) (AllReadyH.nil)
        go_simp
        have hh := drowsOf_one C k m F T (some ⟨v_501.heap.size, 0, none⟩) 1 x v_560 (H2.out.later hHeld) (sl_oneN bl_562.out) hx
        refine hh.mono ?_; clear hh; rintro e v_565 ⟨⟨A2, c2, rfl, hG⟩, hbN⟩
        have hA2 : ∀ b o, A2 = some ⟨b, o, none⟩ → v_560.heap.size ≤ b := fun b o e => grow_new hG (hk1) e
        have fac_566 := Lib.hid hG.own.sl
        clear hG
        have hfN : Fr (fun _ => False) v_560 v_565 := Fr.of_below hbN
        have hH2 := hHeld.trans (hbN.mono hHeld.size)
        clear hbN
        go_wp2_with fail
        have hHeld := hH2
        clear hH2
        have hz_567 := hfN.size
        have bl_568 := Lib.hid (hfN.row_some bl_562.out (fun h => h))
        clear bl_562
        have bl_569 := Lib.hid (hfN.row_some bl_563.out (fun h => h))
        clear bl_563
        refine hK.out _ _ hHeld (fun _ => ?_)
        clear hK K hfN
        try simp only [Act.put, List.setIfInBounds_toArray, List.set_cons_zero, List.set_cons_succ]
        refine wpAnyH_ready (rs := [7]) (by kernel_rfl) (by simp) ?_
        refine AllReadyH.cons (o := ⟨some 15, _, _, _, _, _⟩) rfl (fun K hK => ?_) (AllReadyH.nil)
        go_simp
        have hh := mul_at C k m F T A2 c2 x A5 c5 X v_565 (H2.out.later hHeld) fac_566.out (fun b o hn e => by have := hA2 b o e; have := hHeld.size; omega) (Hs5.out.below hHeld (Nat.le_refl _)) Hoff5.out
        refine hh.mono ?_; clear hh; rintro e v_571 ⟨A6, c6, rfl, hs6, hA6, hbN⟩
        have res_572 := Lib.hid hs6
        clear hs6
        have hfN : Fr (fun _ => False) v_565 v_571 := Fr.of_below hbN
        have hH2 := hHeld.trans (hbN.mono hHeld.size)
        clear hbN
        go_wp2_with fail
        have hHeld := hH2
        clear hH2
        have hz_573 := hfN.size
        have bl_574 := Lib.hid (hfN.row_some bl_568.out (fun h => h))
        clear bl_568
        have bl_575 := Lib.hid (hfN.row_some bl_569.out (fun h => h))
        clear bl_569
        have fac_576 := Lib.hid (fac_566.out.fr hfN (fun _ _ _ _ h => h))
        clear fac_566
        refine hK.out _ _ hHeld (fun _ => ?_)
        clear hK K hfN
        try simp only [Act.put, List.setIfInBounds_toArray, List.set_cons_zero, List.set_cons_succ]
        refine wpAnyH_take (i := 8) (oi := ⟨some 7, _, _, _, _, _⟩) (v := ?vg8_577) rfl (by kernel_rfl) (by kernel_rfl) (by kernel_rfl) (fun _ _ _ h => h) (Or.inl ⟨by rfl, ?yg8_577⟩) hHeld ?rg8_577
        case yg8_577 =>
          intro wq hSw
          (try dsimp only at hSw)
          first | (go_simp; done) | (go_simp; with_reducible rfl)
        try simp only [Act.put, List.setIfInBounds_toArray, List.set_cons_zero, List.set_cons_succ]
        refine wpAnyH_take (i := 9) (oi := ⟨some 16, _, _, _, _, _⟩) (v := ?vg9_578) rfl (by kernel_rfl) (by kernel_rfl) (by kernel_rfl) (fun _ _ _ h => h) (Or.inl ⟨by rfl, ?yg9_578⟩) hHeld ?rg9_578
        case yg9_578 =>
          intro wq hSw
          (try dsimp only at hSw)
          first | (go_simp; done) | (go_simp; with_reducible rfl)
        try simp only [Act.put, List.setIfInBounds_toArray, List.set_cons_zero, List.set_cons_succ]
        refine wpAnyH_take (i := 10) (oi := ⟨some 17, _, _, _, _, _⟩) (v := ?vg10_579) rfl (by kernel_rfl) (by kernel_rfl) (by kernel_rfl) (fun _ _ _ h => h) (Or.inl ⟨by rfl, ?yg10_579⟩) hHeld ?rg10_579
        case yg10_579 =>
          intro wq hSw
          (try dsimp only at hSw)
          first | (go_simp; done) | (go_simp; with_reducible rfl)
        try simp only [Act.put, List.setIfInBounds_toArray, List.set_cons_zero, List.set_cons_succ]
        refine wpAnyH_ready (rs := [12]) (by kernel_rfl) (by simp) ?_
        refine AllReadyH.cons (o := ⟨none, _, _, _, _, _⟩) rfl (fun K hK => ?_) (AllReadyH.nil)
        have q0 := box0_0 bl_575.out; have q1 := box0_1 bl_575.out; have q2 := box0_2 bl_575.out
        have u0 := box0_free bl_575.out 0; have u1 := box0_free bl_575.out 1; have u2 := box0_free bl_575.out 2
        go_simp
        have hx := box0_set (r := 1) (c := (k : Int)) (A := A6) (n := k) (cp := c6) bl_575.out
        have hfN := box0_fr v_571 (v_508.heap.size) 1 (k : Int) A6 k c6
        have hHeld := hHeld.trans (hfN.below hHeld.size (fun k hk => by have hk : k = v_508.heap.size := hk; omega) |> fun q => q)
        have hz_581 : v_571.heap.size ≤ (((v_571.setCell ⟨v_508.heap.size, 0, none⟩ (.int .i64 1)).setCell ⟨v_508.heap.size, 1, none⟩ (.int .i64 (k : Int))).setCell ⟨v_508.heap.size, 2, none⟩ (.slice A6 k c6)).heap.size ∧ (((v_571.setCell ⟨v_508.heap.size, 0, none⟩ (.int .i64 1)).setCell ⟨v_508.heap.size, 1, none⟩ (.int .i64 (k : Int))).setCell ⟨v_508.heap.size, 2, none⟩ (.slice A6 k c6)).heap.size ≤ v_571.heap.size := by simp
        obtain ⟨v_580, hw⟩ : ∃ v_580, v_580 = (((v_571.setCell ⟨v_508.heap.size, 0, none⟩ (.int .i64 1)).setCell ⟨v_508.heap.size, 1, none⟩ (.int .i64 (k : Int))).setCell ⟨v_508.heap.size, 2, none⟩ (.slice A6 k c6)) := ⟨_, rfl⟩
        rw [← hw] at hHeld hx hfN hz_581 ⊢
        clear hw q0 q1 q2 u0 u1 u2
        have bl_582 := Lib.hid (hfN.row_some bl_574.out (fun h => by have h : v_501.heap.size = v_508.heap.size := h; omega))
        clear bl_574
        clear bl_575
        have fac_583 := Lib.hid (trivial)
        clear fac_576
        have res_584 := Lib.hid (res_572.out.fr hfN (fun b o hn hA hk => by have hk : b = v_508.heap.size := hk; have := hA6 b o hA; omega))
        clear res_572
        have bl_585 := Lib.hid hx
        clear hx
        refine hK.out _ _ hHeld (fun _ => ?_)
        clear hK K hfN
        try simp only [Act.put, List.setIfInBounds_toArray, List.set_cons_zero, List.set_cons_succ]
        refine wpAnyH_take (i := 13) (oi := ⟨some 6, _, _, _, _, _⟩) (v := ?vg13_586) rfl (by kernel_rfl) (by kernel_rfl) (by kernel_rfl) (fun _ _ _ h => h) (Or.inl ⟨by rfl, ?yg13_586⟩) hHeld ?rg13_586
        case yg13_586 =>
          intro wq hSw
          (try dsimp only at hSw)
          first | (go_simp; done) | (go_simp; with_reducible rfl)
        try simp only [Act.put, List.setIfInBounds_toArray, List.set_cons_zero, List.set_cons_succ]
        refine wpAnyH_done (by kernel_rfl) ?_ _
        have q2 := boxM_2 bl_585.out
        go_wp2_with fail
        go_ret
        exact ⟨A6, c6, rfl, res_584.out, hHeld⟩
    · go_simp
      have hbN : Below v_501.heap.size v_501 (v_501.alloc (.cells #[.int .i64 0, .int .i64 0, .slice none 0 0] 112)) := (Below.refl _ _).alloc (Nat.le_refl _) _
      have hx := heap_alloc_new v_501 (.cells #[.int .i64 0, .int .i64 0, .slice none 0 0] 112)
      have hz_588 : v_501.heap.size + 1 ≤ (v_501.alloc (.cells #[.int .i64 0, .int .i64 0, .slice none 0 0] 112)).heap.size ∧ (v_501.alloc (.cells #[.int .i64 0, .int .i64 0, .slice none 0 0] 112)).heap.size ≤ v_501.heap.size + 1 := by simp
      obtain ⟨v_587, hw⟩ : ∃ v_587, v_587 = v_501.alloc (.cells #[.int .i64 0, .int .i64 0, .slice none 0 0] 112) := ⟨_, rfl⟩
      rw [← hw] at hbN hx hz_588 ⊢
      clear hw
      have hHeld := hHeld.trans (hbN.mono hHeld.size)
      have hfN : Fr (fun _ => False) v_501 v_587 := Fr.of_below hbN
      clear hbN
      have bl_589 := Lib.hid hx
      clear hx
      refine hK.out _ _ hHeld (fun _ => ?_)
      clear hK K hfN
      try simp only [Act.put, List.setIfInBounds_toArray, List.set_cons_zero, List.set_cons_succ]
      refine wpAnyH_ready (rs := [4]) (by kernel_rfl) (by simp) ?_
      refine AllReadyH.cons (o := ⟨some 12, _, _, _, _, _⟩) rfl (fun K hK => ?_) (AllReadyH.nil)
      go_simp
      have hbN : Below v_587.heap.size v_587 (v_587.alloc (.cells #[.int .i64 (x : Int)] 3)) := (Below.refl _ _).alloc (Nat.le_refl _) _
      have hx := heap_alloc_new v_587 (.cells #[.int .i64 (x : Int)] 3)
      have hz_591 : v_587.heap.size + 1 ≤ (v_587.alloc (.cells #[.int .i64 (x : Int)] 3)).heap.size ∧ (v_587.alloc (.cells #[.int .i64 (x : Int)] 3)).heap.size ≤ v_587.heap.size + 1 := by simp
      obtain ⟨v_590, hw⟩ : ∃ v_590, v_590 = v_587.alloc (.cells #[.int .i64 (x : Int)] 3) := ⟨_, rfl⟩
      rw [← hw] at hbN hx hz_591 ⊢
      clear hw
      have hHeld := hHeld.trans (hbN.mono hHeld.size)
      have hfN : Fr (fun _ => False) v_587 v_590 := Fr.of_below hbN
      clear hbN
      have bl_592 := Lib.hid (hfN.row_some bl_589.out (fun h => h))
      clear bl_589
      have bl_593 := Lib.hid hx
      clear hx
      refine hK.out _ _ hHeld (fun _ => ?_)
      clear hK K hfN
      try simp only [Act.put, List.setIfInBounds_toArray, List.set_cons_zero, List.set_cons_succ]
      refine wpAnyH_ready (rs := [5]) (by kernel_rfl) (by simp) ?_
      refine AllReadyH.cons (o := ⟨some 13, _, _, _, _, _⟩) rfl (fun K hK => ?_) (AllReadyH.nil)
      go_simp
      have hh := drowsOf_one C k m F T (some ⟨v_587.heap.size, 0, none⟩) 1 x v_590 (H2.out.later hHeld) (sl_oneN bl_593.out) hx
      refine hh.mono ?_; clear hh; rintro e v_595 ⟨⟨A2, c2, rfl, hG⟩, hbN⟩
      have hA2 : ∀ b o, A2 = some ⟨b, o, none⟩ → v_590.heap.size ≤ b := fun b o e => grow_new hG (hk1) e
      have fac_596 := Lib.hid hG.own.sl
      clear hG
      have hfN : Fr (fun _ => False) v_590 v_595 := Fr.of_below hbN
      have hH2 := hHeld.trans (hbN.mono hHeld.size)
      clear hbN
      go_wp2_with fail
      have hHeld := hH2
      clear hH2
      have hz_597 := hfN.size
      have bl_598 := Lib.hid (hfN.row_some bl_592.out (fun h => h))
      clear bl_592
      have bl_599 := Lib.hid (hfN.row_some bl_593.out (fun h => h))
      clear bl_593
      refine hK.out _ _ hHeld (fun _ => ?_)
      clear hK K hfN
      try simp only [Act.put, List.setIfInBounds_toArray, List.set_cons_zero, List.set_cons_succ]
      refine wpAnyH_ready (rs := [7]) (by kernel_rfl) (by simp) ?_
      refine AllReadyH.cons (o := ⟨some 15, _, _, _, _, _⟩) rfl (fun K hK => ?_) (AllReadyH.nil)
      go_simp
      have hh := mul_at C k m F T A2 c2 x A5 c5 X v_595 (H2.out.later hHeld) fac_596.out (fun b o hn e => by have := hA2 b o e; have := hHeld.size; omega) (Hs5.out.below hHeld (Nat.le_refl _)) Hoff5.out
      refine hh.mono ?_; clear hh; rintro e v_601 ⟨A6, c6, rfl, hs6, hA6, hbN⟩
      have res_602 := Lib.hid hs6
      clear hs6
      have hfN : Fr (fun _ => False) v_595 v_601 := Fr.of_below hbN
      have hH2 := hHeld.trans (hbN.mono hHeld.size)
      clear hbN
      go_wp2_with fail
      have hHeld := hH2
      clear hH2
      have hz_603 := hfN.size
      have bl_604 := Lib.hid (hfN.row_some bl_598.out (fun h => h))
      clear bl_598
      have bl_605 := Lib.hid (hfN.row_some bl_599.out (fun h => h))
      clear bl_599
      have fac_606 := Lib.hid (fac_596.out.fr hfN (fun _ _ _ _ h => h))
      clear fac_596
      refine hK.out _ _ hHeld (fun _ => ?_)
      clear hK K hfN
      try simp only [Act.put, List.setIfInBounds_toArray, List.set_cons_zero, List.set_cons_succ]
      refine wpAnyH_take (i := 8) (oi := ⟨some 7, _, _, _, _, _⟩) (v := ?vg8_607) rfl (by kernel_rfl) (by kernel_rfl) (by kernel_rfl) (fun _ _ _ h => h) (Or.inl ⟨by rfl, ?yg8_607⟩) hHeld ?rg8_607
      case yg8_607 =>
        intro wq hSw
        (try dsimp only at hSw)
        first | (go_simp; done) | (go_simp; with_reducible rfl)
      try simp only [Act.put, List.setIfInBounds_toArray, List.set_cons_zero, List.set_cons_succ]
      refine wpAnyH_take (i := 9) (oi := ⟨some 16, _, _, _, _, _⟩) (v := ?vg9_608) rfl (by kernel_rfl) (by kernel_rfl) (by kernel_rfl) (fun _ _ _ h => h) (Or.inl ⟨by rfl, ?yg9_608⟩) hHeld ?rg9_608
      case yg9_608 =>
        intro wq hSw
        (try dsimp only at hSw)
        first | (go_simp; done) | (go_simp; with_reducible rfl)
      try simp only [Act.put, List.setIfInBounds_toArray, List.set_cons_zero, List.set_cons_succ]
      refine wpAnyH_take (i := 10) (oi := ⟨some 17, _, _, _, _, _⟩) (v := ?vg10_609) rfl (by kernel_rfl) (by kernel_rfl) (by kernel_rfl) (fun _ _ _ h => h) (Or.inl ⟨by rfl, ?yg10_609⟩) hHeld ?rg10_609
      case yg10_609 =>
        intro wq hSw
        (try dsimp only at hSw)
        first | (go_simp; done) | (go_simp; with_reducible rfl)
      try simp only [Act.put, List.setIfInBounds_toArray, List.set_cons_zero, List.set_cons_succ]
      refine wpAnyH_ready (rs := [12]) (by kernel_rfl) (by simp) ?_
      refine AllReadyH.cons (o := ⟨none, _, _, _, _, _⟩) rfl (fun K hK => ?_) (AllReadyH.nil)
      have q0 := box0_0 bl_604.out; have q1 := box0_1 bl_604.out; have q2 := box0_2 bl_604.out
      have u0 := box0_free bl_604.out 0; have u1 := box0_free bl_604.out 1; have u2 := box0_free bl_604.out 2
      go_simp
      have hx := box0_set (r := 1) (c := (k : Int)) (A := A6) (n := k) (cp := c6) bl_604.out
      have hfN := box0_fr v_601 (v_501.heap.size) 1 (k : Int) A6 k c6
      have hHeld := hHeld.trans (hfN.below hHeld.size (fun k hk => by have hk : k = v_501.heap.size := hk; omega) |> fun q => q)
      have hz_611 : v_601.heap.size ≤ (((v_601.setCell ⟨v_501.heap.size, 0, none⟩ (.int .i64 1)).setCell ⟨v_501.heap.size, 1, none⟩ (.int .i64 (k : Int))).setCell ⟨v_501.heap.size, 2, none⟩ (.slice A6 k c6)).heap.size ∧ (((v_601.setCell ⟨v_501.heap.size, 0, none⟩ (.int .i64 1)).setCell ⟨v_501.heap.size, 1, none⟩ (.int .i64 (k : Int))).setCell ⟨v_501.heap.size, 2, none⟩ (.slice A6 k c6)).heap.size ≤ v_601.heap.size := by simp
      obtain ⟨v_610, hw⟩ : ∃ v_610, v_610 = (((v_601.setCell ⟨v_501.heap.size, 0, none⟩ (.int .i64 1)).setCell ⟨v_501.heap.size, 1, none⟩ (.int .i64 (k : Int))).setCell ⟨v_501.heap.size, 2, none⟩ (.slice A6 k c6)) := ⟨_, rfl⟩
      rw [← hw] at hHeld hx hfN hz_611 ⊢
      clear hw q0 q1 q2 u0 u1 u2
      clear bl_604
      have bl_612 := Lib.hid (hfN.row_some bl_605.out (fun h => by have h : v_587.heap.size = v_501.heap.size := h; omega))
      clear bl_605
      have fac_613 := Lib.hid (trivial)
      clear fac_606
      have res_614 := Lib.hid (res_602.out.fr hfN (fun b o hn hA hk => by have hk : b = v_501.heap.size := hk; have := hA6 b o hA; omega))
      clear res_602
      have bl_615 := Lib.hid hx
      clear hx
      refine hK.out _ _ hHeld (fun _ => ?_)
      clear hK K hfN
      try simp only [Act.put, List.setIfInBounds_toArray, List.set_cons_zero, List.set_cons_succ]
      refine wpAnyH_take (i := 13) (oi := ⟨some 6, _, _, _, _, _⟩) (v := ?vg13_616) rfl (by kernel_rfl) (by kernel_rfl) (by kernel_rfl) (fun _ _ _ h => h) (Or.inl ⟨by rfl, ?yg13_616⟩) hHeld ?rg13_616
      case yg13_616 =>
        intro wq hSw
        (try dsimp only at hSw)
        first | (go_simp; done) | (go_simp; with_reducible rfl)
      try simp only [Act.put, List.setIfInBounds_toArray, List.set_cons_zero, List.set_cons_succ]
      refine wpAnyH_done (by kernel_rfl) ?_ _
      have q2 := boxM_2 bl_615.out
      go_wp2_with fail
      go_ret
      exact ⟨A6, c6, rfl, res_614.out, hHeld⟩
  · go_simp
    have hbN : Below v_501.heap.size v_501 (v_501.alloc (.cells #[.int .i64 (x : Int)] 3)) := (Below.refl _ _).alloc (Nat.le_refl _) _
    have hx := heap_alloc_new v_501 (.cells #[.int .i64 (x : Int)] 3)
    have hz_618 : v_501.heap.size + 1 ≤ (v_501.alloc (.cells #[.int .i64 (x : Int)] 3)).heap.size ∧ (v_501.alloc (.cells #[.int .i64 (x : Int)] 3)).heap.size ≤ v_501.heap.size + 1 := by simp
    obtain ⟨v_617, hw⟩ : ∃ v_617, v_617 = v_501.alloc (.cells #[.int .i64 (x : Int)] 3) := ⟨_, rfl⟩
    rw [← hw] at hbN hx hz_618 ⊢
    clear hw
    have hHeld := hHeld.trans (hbN.mono hHeld.size)
    have hfN : Fr (fun _ => False) v_501 v_617 := Fr.of_below hbN
    clear hbN
    have bl_619 := Lib.hid hx
    clear hx
    refine hK.out _ _ hHeld (fun _ => ?_)
    clear hK K hfN
    try simp only [Act.put, List.setIfInBounds_toArray, List.set_cons_zero, List.set_cons_succ]
    refine wpAnyH_ready (rs := [1, 11]) (by kernel_rfl) (by simp) ?_
    refine AllReadyH.cons (o := ⟨some 9, _, _, _, _, _⟩) rfl (fun K hK => ?_) (AllReadyH.cons (o := ⟨some 5, _, _, _, _, _⟩) rfl (fun K hK => ?_) (AllReadyH.nil))
    · go_simp
      have hh := cf_any C k m F T v_617 (H2.out.later hHeld)
      refine hh.mono ?_; clear hh; rintro e wn ⟨rfl, hwn⟩
      rw [hwn]; clear hwn wn
      have hfN : Fr (fun _ => False) v_617 v_617 := Fr.refl _ _
      have hH2 := hHeld
      go_wp2_with fail
      have hHeld := hH2
      clear hH2
      have hz_621 := hfN.size
      have bl_622 := Lib.hid (hfN.row_some bl_619.out (fun h => h))
      clear bl_619
      refine hK.out _ _ hHeld (fun _ => ?_)
      clear hK K hfN
      try simp only [Act.put, List.setIfInBounds_toArray, List.set_cons_zero, List.set_cons_succ]
      refine wpAnyH_ready (rs := [5, 11]) (by kernel_rfl) (by simp) ?_
      refine AllReadyH.cons (o := ⟨some 13, _, _, _, _, _⟩) rfl (fun K hK => ?_) (AllReadyH.cons (o := ⟨some 5, _, _, _, _, _⟩) rfl (fun K hK => ?_) (AllReadyH.nil))
      · go_simp
        have hh := drowsOf_one C k m F T (some ⟨v_501.heap.size, 0, none⟩) 1 x v_617 (H2.out.later hHeld) (sl_oneN bl_622.out) hx
        refine hh.mono ?_; clear hh; rintro e v_624 ⟨⟨A2, c2, rfl, hG⟩, hbN⟩
        have hA2 : ∀ b o, A2 = some ⟨b, o, none⟩ → v_617.heap.size ≤ b := fun b o e => grow_new hG (hk1) e
        have fac_625 := Lib.hid hG.own.sl
        clear hG
        have hfN : Fr (fun _ => False) v_617 v_624 := Fr.of_below hbN
        have hH2 := hHeld.trans (hbN.mono hHeld.size)
        clear hbN
        go_wp2_with fail
        have hHeld := hH2
        clear hH2
        have hz_626 := hfN.size
        have bl_627 := Lib.hid (hfN.row_some bl_622.out (fun h => h))
        clear bl_622
        refine hK.out _ _ hHeld (fun _ => ?_)
        clear hK K hfN
        try simp only [Act.put, List.setIfInBounds_toArray, List.set_cons_zero, List.set_cons_succ]
        refine wpAnyH_ready (rs := [7, 11]) (by kernel_rfl) (by simp) ?_
        refine AllReadyH.cons (o := ⟨some 15, _, _, _, _, _⟩) rfl (fun K hK => ?_) (AllReadyH.cons (o := ⟨some 5, _, _, _, _, _⟩) rfl (fun K hK => ?_) (AllReadyH.nil))
        · go_simp
          have hh := mul_at C k m F T A2 c2 x A5 c5 X v_624 (H2.out.later hHeld) fac_625.out (fun b o hn e => by have := hA2 b o e; have := hHeld.size; omega) (Hs5.out.below hHeld (Nat.le_refl _)) Hoff5.out
          refine hh.mono ?_; clear hh; rintro e v_629 ⟨A6, c6, rfl, hs6, hA6, hbN⟩
          have res_630 := Lib.hid hs6
          clear hs6
          have hfN : Fr (fun _ => False) v_624 v_629 := Fr.of_below hbN
          have hH2 := hHeld.trans (hbN.mono hHeld.size)
          clear hbN
          go_wp2_with fail
          have hHeld := hH2
          clear hH2
          have hz_631 := hfN.size
          have bl_632 := Lib.hid (hfN.row_some bl_627.out (fun h => h))
          clear bl_627
          have fac_633 := Lib.hid (fac_625.out.fr hfN (fun _ _ _ _ h => h))
          clear fac_625
          refine hK.out _ _ hHeld (fun _ => ?_)
          clear hK K hfN
          try simp only [Act.put, List.setIfInBounds_toArray, List.set_cons_zero, List.set_cons_succ]
          refine wpAnyH_take (i := 8) (oi := ⟨some 7, _, _, _, _, _⟩) (v := ?vg8_634) rfl (by kernel_rfl) (by kernel_rfl) (by kernel_rfl) (fun _ _ _ h => h) (Or.inl ⟨by rfl, ?yg8_634⟩) hHeld ?rg8_634
          case yg8_634 =>
            intro wq hSw
            (try dsimp only at hSw)
            first | (go_simp; done) | (go_simp; with_reducible rfl)
          try simp only [Act.put, List.setIfInBounds_toArray, List.set_cons_zero, List.set_cons_succ]
          refine wpAnyH_take (i := 9) (oi := ⟨some 16, _, _, _, _, _⟩) (v := ?vg9_635) rfl (by kernel_rfl) (by kernel_rfl) (by kernel_rfl) (fun _ _ _ h => h) (Or.inl ⟨by rfl, ?yg9_635⟩) hHeld ?rg9_635
          case yg9_635 =>
            intro wq hSw
            (try dsimp only at hSw)
            first | (go_simp; done) | (go_simp; with_reducible rfl)
          try simp only [Act.put, List.setIfInBounds_toArray, List.set_cons_zero, List.set_cons_succ]
          refine wpAnyH_take (i := 10) (oi := ⟨some 17, _, _, _, _, _⟩) (v := ?vg10_636) rfl (by kernel_rfl) (by kernel_rfl) (by kernel_rfl) (fun _ _ _ h => h) (Or.inl ⟨by rfl, ?yg10_636⟩) hHeld ?rg10_636
          case yg10_636 =>
            intro wq hSw
            (try dsimp only at hSw)
            first | (go_simp; done) | (go_simp; with_reducible rfl)
          try simp only [Act.put, List.setIfInBounds_toArray, List.set_cons_zero, List.set_cons_succ]
          refine wpAnyH_ready (rs := [11]) (by kernel_rfl) (by simp) ?_
          refine AllReadyH.cons (o := ⟨some 5, _, _, _, _, _⟩) rfl (fun K hK => ?_) (AllReadyH.nil)
          go_simp
          have hbN : Below v_629.heap.size v_629 (v_629.alloc (.cells #[.int .i64 0, .int .i64 0, .slice none 0 0] 112)) := (Below.refl _ _).alloc (Nat.le_refl _) _
          have hx := heap_alloc_new v_629 (.cells #[.int .i64 0, .int .i64 0, .slice none 0 0] 112)
          have hz_638 : v_629.heap.size + 1 ≤ (v_629.alloc (.cells #[.int .i64 0, .int .i64 0, .slice none 0 0] 112)).heap.size ∧ (v_629.alloc (.cells #[.int .i64 0, .int .i64 0, .slice none 0 0] 112)).heap.size ≤ v_629.heap.size + 1 := by simp
          obtain ⟨v_637, hw⟩ : ∃ v_637, v_637 = v_629.alloc (.cells #[.int .i64 0, .int .i64 0, .slice none 0 0] 112) := ⟨_, rfl⟩
          rw [← hw] at hbN hx hz_638 ⊢
          clear hw
          have hHeld := hHeld.trans (hbN.mono hHeld.size)
          have hfN : Fr (fun _ => False) v_629 v_637 := Fr.of_below hbN
          clear hbN
          have bl_639 := Lib.hid (hfN.row_some bl_632.out (fun h => h))
          clear bl_632
          have fac_640 := Lib.hid (fac_633.out.fr hfN (fun _ _ _ _ h => h))
          clear fac_633
          have res_641 := Lib.hid (res_630.out.fr hfN (fun _ _ _ _ h => h))
          clear res_630
          have bl_642 := Lib.hid hx
          clear hx
          refine hK.out _ _ hHeld (fun _ => ?_)
          clear hK K hfN
          try simp only [Act.put, List.setIfInBounds_toArray, List.set_cons_zero, List.set_cons_succ]
          refine wpAnyH_ready (rs := [12]) (by kernel_rfl) (by simp) ?_
          refine AllReadyH.cons (o := ⟨none, _, _, _, _, _⟩) rfl (fun K hK => ?_) (AllReadyH.nil)
          have q0 := box0_0 bl_642.out; have q1 := box0_1 bl_642.out; have q2 := box0_2 bl_642.out
          have u0 := box0_free bl_642.out 0; have u1 := box0_free bl_642.out 1; have u2 := box0_free bl_642.out 2
          go_simp
          have hx := box0_set (r := 1) (c := (k : Int)) (A := A6) (n := k) (cp := c6) bl_642.out
          have hfN := box0_fr v_637 (v_629.heap.size) 1 (k : Int) A6 k c6
          have hHeld := hHeld.trans (hfN.below hHeld.size (fun k hk => by have hk : k = v_629.heap.size := hk; omega) |> fun q => q)
          have hz_644 : v_637.heap.size ≤ (((v_637.setCell ⟨v_629.heap.size, 0, none⟩ (.int .i64 1)).setCell ⟨v_629.heap.size, 1, none⟩ (.int .i64 (k : Int))).setCell ⟨v_629.heap.size, 2, none⟩ (.slice A6 k c6)).heap.size ∧ (((v_637.setCell ⟨v_629.heap.size, 0, none⟩ (.int .i64 1)).setCell ⟨v_629.heap.size, 1, none⟩ (.int .i64 (k : Int))).setCell ⟨v_629.heap.size, 2, none⟩ (.slice A6 k c6)).heap.size ≤ v_637.heap.size := by simp
          obtain ⟨v_643, hw⟩ : ∃ v_643, v_643 = (((v_637.setCell ⟨v_629.heap.size, 0, none⟩ (.int .i64 1)).setCell ⟨v_629.heap.size, 1, none⟩ (.int .i64 (k : Int))).setCell ⟨v_629.heap.size, 2, none⟩ (.slice A6 k c6)) := ⟨_, rfl⟩
          rw [← hw] at hHeld hx hfN hz_644 ⊢
          clear hw q0 q1 q2 u0 u1 u2
          have bl_645 := Lib.hid (hfN.row_some bl_639.out (fun h => by have h : v_501.heap.size = v_629.heap.size := h; omega))
          clear bl_639
          have fac_646 := Lib.hid (trivial)
          clear fac_640
          have res_647 := Lib.hid (res_641.out.fr hfN (fun b o hn hA hk => by have hk : b = v_629.heap.size := hk; have := hA6 b o hA; omega))
          clear res_641
          clear bl_642
          have bl_648 := Lib.hid hx
          clear hx
          refine hK.out _ _ hHeld (fun _ => ?_)
          clear hK K hfN
          try simp only [Act.put, List.setIfInBounds_toArray, List.set_cons_zero, List.set_cons_succ]
          refine wpAnyH_take (i := 13) (oi := ⟨some 6, _, _, _, _, _⟩) (v := ?vg13_649) rfl (by kernel_rfl) (by kernel_rfl) (by kernel_rfl) (fun _ _ _ h => h) (Or.inl ⟨by rfl, ?yg13_649⟩) hHeld ?rg13_649
          case yg13_649 =>
            intro wq hSw
            (try dsimp only at hSw)
            first | (go_simp; done) | (go_simp; with_reducible rfl)
          try simp only [Act.put, List.setIfInBounds_toArray, List.set_cons_zero, List.set_cons_succ]
          refine wpAnyH_done (by kernel_rfl) ?_ _
          have q2 := boxM_2 bl_648.out
          go_wp2_with fail
          go_ret
          exact ⟨A6, c6, rfl, res_647.out, hHeld⟩
        · go_simp
          have hbN : Below v_624.heap.size v_624 (v_624.alloc (.cells #[.int .i64 0, .int .i64 0, .slice none 0 0] 112)) := (Below.refl _ _).alloc (Nat.le_refl _) _
          have hx := heap_alloc_new v_624 (.cells #[.int .i64 0, .int .i64 0, .slice none 0 0] 112)
          have hz_651 : v_624.heap.size + 1 ≤ (v_624.alloc (.cells #[.int .i64 0, .int .i64 0, .slice none 0 0] 112)).heap.size ∧ (v_624.alloc (.cells #[.int .i64 0, .int .i64 0, .slice none 0 0] 112)).heap.size ≤ v_624.heap.size + 1 := by simp
          obtain ⟨v_650, hw⟩ : ∃ v_650, v_650 = v_624.alloc (.cells #[.int .i64 0, .int .i64 0, .slice none 0 0] 112) := ⟨_, rfl⟩
          rw [← hw] at hbN hx hz_651 ⊢
          clear hw
          have hHeld := hHeld.trans (hbN.mono hHeld.size)
          have hfN : Fr (fun _ => False) v_624 v_650 := Fr.of_below hbN
          clear hbN
          have bl_652 := Lib.hid (hfN.row_some bl_627.out (fun h => h))
          clear bl_627
          have fac_653 := Lib.hid (fac_625.out.fr hfN (fun _ _ _ _ h => h))
          clear fac_625
          have bl_654 := Lib.hid hx
          clear hx
          refine hK.out _ _ hHeld (fun _ => ?_)
          clear hK K hfN
          try simp only [Act.put, List.setIfInBounds_toArray, List.set_cons_zero, List.set_cons_succ]
          refine wpAnyH_ready (rs := [7]) (by kernel_rfl) (by simp) ?_
          refine AllReadyH.cons (o := ⟨some 15, _, _, _, _, _⟩) rfl (fun K hK => ?_) (AllReadyH.nil)
          go_simp
          have hh := mul_at C k m F T A2 c2 x A5 c5 X v_650 (H2.out.later hHeld) fac_653.out (fun b o hn e => by have := hA2 b o e; have := hHeld.size; omega) (Hs5.out.below hHeld (Nat.le_refl _)) Hoff5.out
          refine hh.mono ?_; clear hh; rintro e v_656 ⟨A6, c6, rfl, hs6, hA6, hbN⟩
          have res_657 := Lib.hid hs6
          clear hs6
          have hfN : Fr (fun _ => False) v_650 v_656 := Fr.of_below hbN
          have hH2 := hHeld.trans (hbN.mono hHeld.size)
          clear hbN
          go_wp2_with fail
          have hHeld := hH2
          clear hH2
          have hz_658 := hfN.size
          have bl_659 := Lib.hid (hfN.row_some bl_652.out (fun h => h))
          clear bl_652
          have fac_660 := Lib.hid (fac_653.out.fr hfN (fun _ _ _ _ h => h))
          clear fac_653
          have bl_661 := Lib.hid (hfN.row_some bl_654.out (fun h => h))
          clear bl_654
          refine hK.out _ _ hHeld (fun _ => ?_)
          clear hK K hfN
          try simp only [Act.put, List.setIfInBounds_toArray, List.set_cons_zero, List.set_cons_succ]
          refine wpAnyH_take (i := 8) (oi := ⟨some 7, _, _, _, _, _⟩) (v := ?vg8_662) rfl (by kernel_rfl) (by kernel_rfl) (by kernel_rfl) (fun _ _ _ h => h) (Or.inl ⟨by rfl, ?yg8_662⟩) hHeld ?rg8_662
          case yg8_662 =>
            intro wq hSw
            (try dsimp only at hSw)
            first | (go_simp; done) | (go_simp; with_reducible rfl)
          try simp only [Act.put, List.setIfInBounds_toArray, List.set_cons_zero, List.set_cons_succ]
          refine wpAnyH_take (i := 9) (oi := ⟨some 16, _, _, _, _, _⟩) (v := ?vg9_663) rfl (by kernel_rfl) (by kernel_rfl) (by kernel_rfl) (fun _ _ _ h => h) (Or.inl ⟨by rfl, ?yg9_663⟩) hHeld ?rg9_663
          case yg9_663 =>
            intro wq hSw
            (try dsimp only at hSw)
            first | (go_simp; done) | (go_simp; with_reducible rfl)
          try simp only [Act.put, List.setIfInBounds_toArray, List.set_cons_zero, List.set_cons_succ]
          refine wpAnyH_take (i := 10) (oi := ⟨some 17, _, _, _, _, _⟩) (v := ?vg10_664) rfl (by kernel_rfl) (by kernel_rfl) (by kernel_rfl) (fun _ _ _ h => h) (Or.inl ⟨by rfl, ?yg10_664⟩) hHeld ?rg10_664
          case yg10_664 =>
            intro wq hSw
            (try dsimp only at hSw)
            first | (go_simp; done) | (go_simp; with_reducible rfl)
          try simp only [Act.put, List.setIfInBounds_toArray, List.set_cons_zero, List.set_cons_succ]
          refine wpAnyH_ready (rs := [12]) (by kernel_rfl) (by simp) ?_
          refine AllReadyH.cons (o := ⟨none, _, _, _, _, _⟩) rfl (fun K hK => ?_) (AllReadyH.nil)
          have q0 := box0_0 bl_661.out; have q1 := box0_1 bl_661.out; have q2 := box0_2 bl_661.out
          have u0 := box0_free bl_661.out 0; have u1 := box0_free bl_661.out 1; have u2 := box0_free bl_661.out 2
          go_simp
          have hx := box0_set (r := 1) (c := (k : Int)) (A := A6) (n := k) (cp := c6) bl_661.out
          have hfN := box0_fr v_656 (v_624.heap.size) 1 (k : Int) A6 k c6
          have hHeld := hHeld.trans (hfN.below hHeld.size (fun k hk => by have hk : k = v_624.heap.size := hk; omega) |> fun q => q)
          have hz_666 : v_656.heap.size ≤ (((v_656.setCell ⟨v_624.heap.size, 0, none⟩ (.int .i64 1)).setCell ⟨v_624.heap.size, 1, none⟩ (.int .i64 (k : Int))).setCell ⟨v_624.heap.size, 2, none⟩ (.slice A6 k c6)).heap.size ∧ (((v_656.setCell ⟨v_624.heap.size, 0, none⟩ (.int .i64 1)).setCell ⟨v_624.heap.size, 1, none⟩ (.int .i64 (k : Int))).setCell ⟨v_624.heap.size, 2, none⟩ (.slice A6 k c6)).heap.size ≤ v_656.heap.size := by simp
          obtain ⟨v_665, hw⟩ : ∃ v_665, v_665 = (((v_656.setCell ⟨v_624.heap.size, 0, none⟩ (.int .i64 1)).setCell ⟨v_624.heap.size, 1, none⟩ (.int .i64 (k : Int))).setCell ⟨v_624.heap.size, 2, none⟩ (.slice A6 k c6)) := ⟨_, rfl⟩
          rw [← hw] at hHeld hx hfN hz_666 ⊢
          clear hw q0 q1 q2 u0 u1 u2
          have bl_667 := Lib.hid (hfN.row_some bl_659.out (fun h => by have h : v_501.heap.size = v_624.heap.size := h; omega))
          clear bl_659
          have fac_668 := Lib.hid (trivial)
          clear fac_660
          clear bl_661
          have res_669 := Lib.hid (res_657.out.fr hfN (fun b o hn hA hk => by have hk : b = v_624.heap.size := hk; have := hA6 b o hA; omega))
          clear res_657
          have bl_670 := Lib.hid hx
          clear hx
          refine hK.out _ _ hHeld (fun _ => ?_)
          clear hK K hfN
          try simp only [Act.put, List.setIfInBounds_toArray, List.set_cons_zero, List.set_cons_succ]
          refine wpAnyH_take (i := 13) (oi := ⟨some 6, _, _, _, _, _⟩) (v := ?vg13_671) rfl (by kernel_rfl) (by kernel_rfl) (by kernel_rfl) (fun _ _ _ h => h) (Or.inl ⟨by rfl, ?yg13_671⟩) hHeld ?rg13_671
          case yg13_671 =>
            intro wq hSw
            (try dsimp only at hSw)
            first | (go_simp; done) | (go_simp; with_reducible rfl)
          try simp only [Act.put, List.setIfInBounds_toArray, List.set_cons_zero, List.set_cons_succ]
          refine wpAnyH_done (by kernel_rfl) ?_ _
          have q2 := boxM_2 bl_670.out
          go_wp2_with fail
          go_ret
          exact ⟨A6, c6, rfl, res_669.out, hHeld⟩
      · go_simp
        have hbN : Below v_617.heap.size v_617 (v_617.alloc (.cells #[.int .i64 0, .int .i64 0, .slice none 0 0] 112)) := (Below.refl _ _).alloc (Nat.le_refl _) _
        have hx := heap_alloc_new v_617 (.cells #[.int .i64 0, .int .i64 0, .slice none 0 0] 112)
        have hz_673 : v_617.heap.size + 1 ≤ (v_617.alloc (.cells #[.int .i64 0, .int .i64 0, .slice none 0 0] 112)).heap.size ∧ (v_617.alloc (.cells #[.int .i64 0, .int .i64 0, .slice none 0 0] 112)).heap.size ≤ v_617.heap.size + 1 := by simp
        obtain ⟨v_672, hw⟩ : ∃ v_672, v_672 = v_617.alloc (.cells #[.int .i64 0, .int .i64 0, .slice none 0 0] 112) := ⟨_, rfl⟩
        rw [← hw] at hbN hx hz_673 ⊢
        clear hw
        have hHeld := hHeld.trans (hbN.mono hHeld.size)
        have hfN : Fr (fun _ => False) v_617 v_672 := Fr.of_below hbN
        clear hbN
        have bl_674 := Lib.hid (hfN.row_some bl_622.out (fun h => h))
        clear bl_622
        have bl_675 := Lib.hid hx
        clear hx
        refine hK.out _ _ hHeld (fun _ => ?_)
        clear hK K hfN
        try simp only [Act.put, List.setIfInBounds_toArray, List.set_cons_zero, List.set_cons_succ]
        refine wpAnyH_ready (rs := [5]) (by kernel_rfl) (by simp) ?_
        refine AllReadyH.cons (o := ⟨some 13, _, _, _, _, _⟩) rfl (fun K hK => ?_) (AllReadyH.nil)
        go_simp
        have hh := drowsOf_one C k m F T (some ⟨v_501.heap.size, 0, none⟩) 1 x v_672 (H2.out.later hHeld) (sl_oneN bl_674.out) hx
        refine hh.mono ?_; clear hh; rintro e v_677 ⟨⟨A2, c2, rfl, hG⟩, hbN⟩
        have hA2 : ∀ b o, A2 = some ⟨b, o, none⟩ → v_672.heap.size ≤ b := fun b o e => grow_new hG (hk1) e
        have fac_678 := Lib.hid hG.own.sl
        clear hG
        have hfN : Fr (fun _ => False) v_672 v_677 := Fr.of_below hbN
        have hH2 := hHeld.trans (hbN.mono hHeld.size)
        clear hbN
        go_wp2_with fail
        have hHeld := hH2
        clear hH2
        have hz_679 := hfN.size
        have bl_680 := Lib.hid (hfN.row_some bl_674.out (fun h => h))
        clear bl_674
        have bl_681 := Lib.hid (hfN.row_some bl_675.out (fun h => h))
        clear bl_675
        refine hK.out _ _ hHeld (fun _ => ?_)
        clear hK K hfN
        try simp only [Act.put, List.setIfInBounds_toArray, List.set_cons_zero, List.set_cons_succ]
        refine wpAnyH_ready (rs := [7]) (by kernel_rfl) (by simp) ?_
        refine AllReadyH.cons (o := ⟨some 15, _, _, _, _, _⟩) rfl (fun K hK => ?_) (AllReadyH.nil)
        go_simp
        have hh := mul_at C k m F T A2 c2 x A5 c5 X v_677 (H2.out.later hHeld) fac_678.out (fun b o hn e => by have := hA2 b o e; have := hHeld.size; omega) (Hs5.out.below hHeld (Nat.le_refl _)) Hoff5.out
        refine hh.mono ?_; clear hh; rintro e v_683 ⟨A6, c6, rfl, hs6, hA6, hbN⟩
        have res_684 := Lib.hid hs6
        clear hs6
        have hfN : Fr (fun _ => False) v_677 v_683 := Fr.of_below hbN
        have hH2 := hHeld.trans (hbN.mono hHeld.size)
        clear hbN
        go_wp2_with fail
        have hHeld := hH2
        clear hH2
        have hz_685 := hfN.size
        have bl_686 := Lib.hid (hfN.row_some bl_680.out (fun h => h))
        clear bl_680
        have bl_687 := Lib.hid (hfN.row_some bl_681.out (fun h => h))
        clear bl_681
        have fac_688 := Lib.hid (fac_678.out.fr hfN (fun _ _ _ _ h => h))
        clear fac_678
        refine hK.out _ _ hHeld (fun _ => ?_)
        clear hK K hfN
        try simp only [Act.put, List.setIfInBounds_toArray, List.set_cons_zero, List.set_cons_succ]
        refine wpAnyH_take (i := 8) (oi := ⟨some 7, _, _, _, _, _⟩) (v := ?vg8_689) rfl (by kernel_rfl) (by kernel_rfl) (by kernel_rfl) (fun _ _ _ h => h) (Or.inl ⟨by rfl, ?yg8_689⟩) hHeld ?rg8_689
        case yg8_689 =>
          intro wq hSw
          (try dsimp only at hSw)
          first | (go_simp; done) | (go_simp; with_reducible rfl)
        try simp only [Act.put, List.setIfInBounds_toArray, List.set_cons_zero, List.set_cons_succ]
        refine wpAnyH_take (i := 9) (oi := ⟨some 16, _, _, _, _, _⟩) (v := ?vg9_690) rfl (by kernel_rfl) (by kernel_rfl) (by kernel_rfl) (fun _ _ _ h => h) (Or.inl ⟨by rfl, ?yg9_690⟩) hHeld ?rg9_690
        case yg9_690 =>
          intro wq hSw
          (try dsimp only at hSw)
          first | (go_simp; done) | (go_simp; with_reducible rfl)
        try simp only [Act.put, List.setIfInBounds_toArray, List.set_cons_zero, List.set_cons_succ]
        refine wpAnyH_take (i := 10) (oi := ⟨some 17, _, _, _, _, _⟩) (v := ?vg10_691) rfl (by kernel_rfl) (by kernel_rfl) (by kernel_rfl) (fun _ _ _ h => h) (Or.inl ⟨by rfl, ?yg10_691⟩) hHeld ?rg10_691
        case yg10_691 =>
          intro wq hSw
          (try dsimp only at hSw)
          first | (go_simp; done) | (go_simp; with_reducible rfl)
        try simp only [Act.put, List.setIfInBounds_toArray, List.set_cons_zero, List.set_cons_succ]
        refine wpAnyH_ready (rs := [12]) (by kernel_rfl) (by simp) ?_
        refine AllReadyH.cons (o := ⟨none, _, _, _, _, _⟩) rfl (fun K hK => ?_) (AllReadyH.nil)
        have q0 := box0_0 bl_687.out; have q1 := box0_1 bl_687.out; have q2 := box0_2 bl_687.out
        have u0 := box0_free bl_687.out 0; have u1 := box0_free bl_687.out 1; have u2 := box0_free bl_687.out 2
        go_simp
        have hx := box0_set (r := 1) (c := (k : Int)) (A := A6) (n := k) (cp := c6) bl_687.out
        have hfN := box0_fr v_683 (v_617.heap.size) 1 (k : Int) A6 k c6
        have hHeld := hHeld.trans (hfN.below hHeld.size (fun k hk => by have hk : k = v_617.heap.size := hk; omega) |> fun q => q)
        have hz_693 : v_683.heap.size ≤ (((v_683.setCell ⟨v_617.heap.size, 0, none⟩ (.int .i64 1)).setCell ⟨v_617.heap.size, 1, none⟩ (.int .i64 (k : Int))).setCell ⟨v_617.heap.size, 2, none⟩ (.slice A6 k c6)).heap.size ∧ (((v_683.setCell ⟨v_617.heap.size, 0, none⟩ (.int .i64 1)).setCell ⟨v_617.heap.size, 1, none⟩ (.int .i64 (k : Int))).setCell ⟨v_617.heap.size, 2, none⟩ (.slice A6 k c6)).heap.size ≤ v_683.heap.size := by simp
        obtain ⟨v_692, hw⟩ : ∃ v_692, v_692 = (((v_683.setCell ⟨v_617.heap.size, 0, none⟩ (.int .i64 1)).setCell ⟨v_617.heap.size, 1, none⟩ (.int .i64 (k : Int))).setCell ⟨v_617.heap.size, 2, none⟩ (.slice A6 k c6)) := ⟨_, rfl⟩
        rw [← hw] at hHeld hx hfN hz_693 ⊢
        clear hw q0 q1 q2 u0 u1 u2
        have bl_694 := Lib.hid (hfN.row_some bl_686.out (fun h => by have h : v_501.heap.size = v_617.heap.size := h; omega))
        clear bl_686
        clear bl_687
        have fac_695 := Lib.hid (trivial)
        clear fac_688
        have res_696 := Lib.hid (res_684.out.fr hfN (fun b o hn hA hk => by have hk : b = v_617.heap.size := hk; have := hA6 b o hA; omega))
        clear res_684
        have bl_697 := Lib.hid hx
        clear hx
        refine hK.out _ _ hHeld (fun _ => ?_)
        clear hK K hfN
        try simp only [Act.put, List.setIfInBounds_toArray, List.set_cons_zero, List.set_cons_succ]
        refine wpAnyH_take (i := 13) (oi := ⟨some 6, _, _, _, _, _⟩) (v := ?vg13_698) rfl (by kernel_rfl) (by kernel_rfl) (by kernel_rfl) (fun _ _ _ h => h) (Or.inl ⟨by rfl, ?yg13_698⟩) hHeld ?rg13_698
        case yg13_698 =>
          intro wq hSw
          (try dsimp only at hSw)
          first | (go_simp; done) | (go_simp; with_reducible rfl)
        try simp only [Act.put, List.setIfInBounds_toArray, List.set_cons_zero, List.set_cons_succ]
        refine wpAnyH_done (by kernel_rfl) ?_ _
        have q2 := boxM_2 bl_697.out
        go_wp2_with fail
        go_ret
        exact ⟨A6, c6, rfl, res_696.out, hHeld⟩
    · go_simp
      have hbN : Below v_617.heap.size v_617 (v_617.alloc (.cells #[.int .i64 0, .int .i64 0, .slice none 0 0] 112)) := (Below.refl _ _).alloc (Nat.le_refl _) _
      have hx := heap_alloc_new v_617 (.cells #[.int .i64 0, .int .i64 0, .slice none 0 0] 112)
      have hz_700 : v_617.heap.size + 1 ≤ (v_617.alloc (.cells #[.int .i64 0, .int .i64 0, .slice none 0 0] 112)).heap.size ∧ (v_617.alloc (.cells #[.int .i64 0, .int .i64 0, .slice none 0 0] 112)).heap.size ≤ v_617.heap.size + 1 := by simp
      obtain ⟨v_699, hw⟩ : ∃ v_699, v_699 = v_617.alloc (.cells #[.int .i64 0, .int .i64 0, .slice none 0 0] 112) := ⟨_, rfl⟩
      rw [← hw] at hbN hx hz_700 ⊢
      clear hw
      have hHeld := hHeld.trans (hbN.mono hHeld.size)
      have hfN : Fr (fun _ => False) v_617 v_699 := Fr.of_below hbN
      clear hbN
      have bl_701 := Lib.hid (hfN.row_some bl_619.out (fun h => h))
      clear bl_619
      have bl_702 := Lib.hid hx
      clear hx
      refine hK.out _ _ hHeld (fun _ => ?_)
      clear hK K hfN
      try simp only [Act.put, List.setIfInBounds_toArray, List.set_cons_zero, List.set_cons_succ]
      refine wpAnyH_ready (rs := [1]) (by kernel_rfl) (by simp) ?_
      refine AllReadyH.cons (o := ⟨some 9, _, _, _, _, _⟩) rfl (fun K hK => ?_) (AllReadyH.nil)
      go_simp
      have hh := cf_any C k m F T v_699 (H2.out.later hHeld)
      refine hh.mono ?_; clear hh; rintro e wn ⟨rfl, hwn⟩
      rw [hwn]; clear hwn wn
      have hfN : Fr (fun _ => False) v_699 v_699 := Fr.refl _ _
      have hH2 := hHeld
      go_wp2_with fail
      have hHeld := hH2
      clear hH2
      have hz_704 := hfN.size
      have bl_705 := Lib.hid (hfN.row_some bl_701.out (fun h => h))
      clear bl_701
      have bl_706 := Lib.hid (hfN.row_some bl_702.out (fun h => h))
      clear bl_702
      refine hK.out _ _ hHeld (fun _ => ?_)
      clear hK K hfN
      try simp only [Act.put, List.setIfInBounds_toArray, List.set_cons_zero, List.set_cons_succ]
      refine wpAnyH_ready (rs := [5]) (by kernel_rfl) (by simp) ?_
      refine AllReadyH.cons (o := ⟨some 13, _, _, _, _, _⟩) rfl (fun K hK => ?_) (AllReadyH.nil)
      go_simp
      have hh := drowsOf_one C k m F T (some ⟨v_501.heap.size, 0, none⟩) 1 x v_699 (H2.out.later hHeld) (sl_oneN bl_705.out) hx
      refine hh.mono ?_; clear hh; rintro e v_708 ⟨⟨A2, c2, rfl, hG⟩, hbN⟩
      have hA2 : ∀ b o, A2 = some ⟨b, o, none⟩ → v_699.heap.size ≤ b := fun b o e => grow_new hG (hk1) e
      have fac_709 := Lib.hid hG.own.sl
      clear hG
      have hfN : Fr (fun _ => False) v_699 v_708 := Fr.of_below hbN
      have hH2 := hHeld.trans (hbN.mono hHeld.size)
      clear hbN
      go_wp2_with fail
      have hHeld := hH2
      clear hH2
      have hz_710 := hfN.size
      have bl_711 := Lib.hid (hfN.row_some bl_705.out (fun h => h))
      clear bl_705
      have bl_712 := Lib.hid (hfN.row_some bl_706.out (fun h => h))
      clear bl_706
      refine hK.out _ _ hHeld (fun _ => ?_)
      clear hK K hfN
      try simp only [Act.put, List.setIfInBounds_toArray, List.set_cons_zero, List.set_cons_succ]
      refine wpAnyH_ready (rs := [7]) (by kernel_rfl) (by simp) ?_
      refine AllReadyH.cons (o := ⟨some 15, _, _, _, _, _⟩) rfl (fun K hK => ?_) (AllReadyH.nil)
      go_simp
      have hh := mul_at C k m F T A2 c2 x A5 c5 X v_708 (H2.out.later hHeld) fac_709.out (fun b o hn e => by have := hA2 b o e; have := hHeld.size; omega) (Hs5.out.below hHeld (Nat.le_refl _)) Hoff5.out
      refine hh.mono ?_; clear hh; rintro e v_714 ⟨A6, c6, rfl, hs6, hA6, hbN⟩
      have res_715 := Lib.hid hs6
      clear hs6
      have hfN : Fr (fun _ => False) v_708 v_714 := Fr.of_below hbN
      have hH2 := hHeld.trans (hbN.mono hHeld.size)
      clear hbN
      go_wp2_with fail
      have hHeld := hH2
      clear hH2
      have hz_716 := hfN.size
      have bl_717 := Lib.hid (hfN.row_some bl_711.out (fun h => h))
      clear bl_711
      have bl_718 := Lib.hid (hfN.row_some bl_712.out (fun h => h))
      clear bl_712
      have fac_719 := Lib.hid (fac_709.out.fr hfN (fun _ _ _ _ h => h))
      clear fac_709
      refine hK.out _ _ hHeld (fun _ => ?_)
      clear hK K hfN
      try simp only [Act.put, List.setIfInBounds_toArray, List.set_cons_zero, List.set_cons_succ]
      refine wpAnyH_take (i := 8) (oi := ⟨some 7, _, _, _, _, _⟩) (v := ?vg8_720) rfl (by kernel_rfl) (by kernel_rfl) (by kernel_rfl) (fun _ _ _ h => h) (Or.inl ⟨by rfl, ?yg8_720⟩) hHeld ?rg8_720
      case yg8_720 =>
        intro wq hSw
        (try dsimp only at hSw)
        first | (go_simp; done) | (go_simp; with_reducible rfl)
      try simp only [Act.put, List.setIfInBounds_toArray, List.set_cons_zero, List.set_cons_succ]
      refine wpAnyH_take (i := 9) (oi := ⟨some 16, _, _, _, _, _⟩) (v := ?vg9_721) rfl (by kernel_rfl) (by kernel_rfl) (by kernel_rfl) (fun _ _ _ h => h) (Or.inl ⟨by rfl, ?yg9_721⟩) hHeld ?rg9_721
      case yg9_721 =>
        intro wq hSw
        (try dsimp only at hSw)
        first | (go_simp; done) | (go_simp; with_reducible rfl)
      try simp only [Act.put, List.setIfInBounds_toArray, List.set_cons_zero, List.set_cons_succ]
      refine wpAnyH_take (i := 10) (oi := ⟨some 17, _, _, _, _, _⟩) (v := ?vg10_722) rfl (by kernel_rfl) (by kernel_rfl) (by kernel_rfl) (fun _ _ _ h => h) (Or.inl ⟨by rfl, ?yg10_722⟩) hHeld ?rg10_722
      case yg10_722 =>
        intro wq hSw
        (try dsimp only at hSw)
        first | (go_simp; done) | (go_simp; with_reducible rfl)
      try simp only [Act.put, List.setIfInBounds_toArray, List.set_cons_zero, List.set_cons_succ]
      refine wpAnyH_ready (rs := [12]) (by kernel_rfl) (by simp) ?_
      refine AllReadyH.cons (o := ⟨none, _, _, _, _, _⟩) rfl (fun K hK => ?_) (AllReadyH.nil)
      have q0 := box0_0 bl_718.out; have q1 := box0_1 bl_718.out; have q2 := box0_2 bl_718.out
      have u0 := box0_free bl_718.out 0; have u1 := box0_free bl_718.out 1; have u2 := box0_free bl_718.out 2
      go_simp
      have hx := box0_set (r := 1) (c := (k : Int)) (A := A6) (n := k) (cp := c6) bl_718.out
      have hfN := box0_fr v_714 (v_617.heap.size) 1 (k : Int) A6 k c6
      have hHeld := hHeld.trans (hfN.below hHeld.size (fun k hk => by have hk : k = v_617.heap.size := hk; omega) |> fun q => q)
      have hz_724 : v_714.heap.size ≤ (((v_714.setCell ⟨v_617.heap.size, 0, none⟩ (.int .i64 1)).setCell ⟨v_617.heap.size, 1, none⟩ (.int .i64 (k : Int))).setCell ⟨v_617.heap.size, 2, none⟩ (.slice A6 k c6)).heap.size ∧ (((v_714.setCell ⟨v_617.heap.size, 0, none⟩ (.int .i64 1)).setCell ⟨v_617.heap.size, 1, none⟩ (.int .i64 (k : Int))).setCell ⟨v_617.heap.size, 2, none⟩ (.slice A6 k c6)).heap.size ≤ v_714.heap.size := by simp
      obtain ⟨v_723, hw⟩ : ∃ v_723, v_723 = (((v_714.setCell ⟨v_617.heap.size, 0, none⟩ (.int .i64 1)).setCell ⟨v_617.heap.size, 1, none⟩ (.int .i64 (k : Int))).setCell ⟨v_617.heap.size, 2, none⟩ (.slice A6 k c6)) := ⟨_, rfl⟩
      rw [← hw] at hHeld hx hfN hz_724 ⊢
      clear hw q0 q1 q2 u0 u1 u2
      have bl_725 := Lib.hid (hfN.row_some bl_717.out (fun h => by have h : v_501.heap.size = v_617.heap.size := h; omega))
      clear bl_717
      clear bl_718
      have fac_726 := Lib.hid (trivial)
      clear fac_719
      have res_727 := Lib.hid (res_715.out.fr hfN (fun b o hn hA hk => by have hk : b = v_617.heap.size := hk; have := hA6 b o hA; omega))
      clear res_715
      have bl_728 := Lib.hid hx
      clear hx
      refine hK.out _ _ hHeld (fun _ => ?_)
      clear hK K hfN
      try simp only [Act.put, List.setIfInBounds_toArray, List.set_cons_zero, List.set_cons_succ]
      refine wpAnyH_take (i := 13) (oi := ⟨some 6, _, _, _, _, _⟩) (v := ?vg13_729) rfl (by kernel_rfl) (by kernel_rfl) (by kernel_rfl) (fun _ _ _ h => h) (Or.inl ⟨by rfl, ?yg13_729⟩) hHeld ?rg13_729
      case yg13_729 =>
        intro wq hSw
        (try dsimp only at hSw)
        first | (go_simp; done) | (go_simp; with_reducible rfl)
      try simp only [Act.put, List.setIfInBounds_toArray, List.set_cons_zero, List.set_cons_succ]
      refine wpAnyH_done (by kernel_rfl) ?_ _
      have q2 := boxM_2 bl_728.out
      go_wp2_with fail
      go_ret
      exact ⟨A6, c6, rfl, res_727.out, hHeld⟩
  · go_simp
    have hbN : Below v_501.heap.size v_501 (v_501.alloc (.cells #[.int .i64 0, .int .i64 0, .slice none 0 0] 112)) := (Below.refl _ _).alloc (Nat.le_refl _) _
    have hx := heap_alloc_new v_501 (.cells #[.int .i64 0, .int .i64 0, .slice none 0 0] 112)
    have hz_731 : v_501.heap.size + 1 ≤ (v_501.alloc (.cells #[.int .i64 0, .int .i64 0, .slice none 0 0] 112)).heap.size ∧ (v_501.alloc (.cells #[.int .i64 0, .int .i64 0, .slice none 0 0] 112)).heap.size ≤ v_501.heap.size + 1 := by simp
    obtain ⟨v_730, hw⟩ : ∃ v_730, v_730 = v_501.alloc (.cells #[.int .i64 0, .int .i64 0, .slice none 0 0] 112) := ⟨_, rfl⟩
    rw [← hw] at hbN hx hz_731 ⊢
    clear hw
    have hHeld := hHeld.trans (hbN.mono hHeld.size)
    have hfN : Fr (fun _ => False) v_501 v_730 := Fr.of_below hbN
    clear hbN
    have bl_732 := Lib.hid hx
    clear hx
    refine hK.out _ _ hHeld (fun _ => ?_)
    clear hK K hfN
    try simp only [Act.put, List.setIfInBounds_toArray, List.set_cons_zero, List.set_cons_succ]
    refine wpAnyH_ready (rs := [1, 4]) (by kernel_rfl) (by simp) ?_
    refine AllReadyH.cons (o := ⟨some 9, _, _, _, _, _⟩) rfl (fun K hK => ?_) (AllReadyH.cons (o := ⟨some 12, _, _, _, _, _⟩) rfl (fun K hK => ?_) (AllReadyH.nil))
    · go_simp
      have hh := cf_any C k m F T v_730 (H2.out.later hHeld)
      refine hh.mono ?_; clear hh; rintro e wn ⟨rfl, hwn⟩
      rw [hwn]; clear hwn wn
      have hfN : Fr (fun _ => False) v_730 v_730 := Fr.refl _ _
      have hH2 := hHeld
      go_wp2_with fail
      have hHeld := hH2
      clear hH2
      have hz_734 := hfN.size
      have bl_735 := Lib.hid (hfN.row_some bl_732.out (fun h => h))
      clear bl_732
      refine hK.out _ _ hHeld (fun _ => ?_)
      clear hK K hfN
      try simp only [Act.put, List.setIfInBounds_toArray, List.set_cons_zero, List.set_cons_succ]
      refine wpAnyH_ready (rs := [4]) (by kernel_rfl) (by simp) ?_
      refine AllReadyH.cons (o := ⟨some 12, _, _, _, _, _⟩) rfl (fun K hK => ?_) (AllReadyH.nil)
      go_simp
      have hbN : Below v_730.heap.size v_730 (v_730.alloc (.cells #[.int .i64 (x : Int)] 3)) := (Below.refl _ _).alloc (Nat.le_refl _) _
      have hx := heap_alloc_new v_730 (.cells #[.int .i64 (x : Int)] 3)
      have hz_737 : v_730.heap.size + 1 ≤ (v_730.alloc (.cells #[.int .i64 (x : Int)] 3)).heap.size ∧ (v_730.alloc (.cells #[.int .i64 (x : Int)] 3)).heap.size ≤ v_730.heap.size + 1 := by simp
      obtain ⟨v_736, hw⟩ : ∃ v_736, v_736 = v_730.alloc (.cells #[.int .i64 (x : Int)] 3) := ⟨_, rfl⟩
      rw [← hw] at hbN hx hz_737 ⊢
      clear hw
      have hHeld := hHeld.trans (hbN.mono hHeld.size)
      have hfN : Fr (fun _ => False) v_730 v_736 := Fr.of_below hbN
      clear hbN
      have bl_738 := Lib.hid (hfN.row_some bl_735.out (fun h => h))
      clear bl_735
      have bl_739 := Lib.hid hx
      clear hx
      refine hK.out _ _ hHeld (fun _ => ?_)
      clear hK K hfN
      try simp only [Act.put, List.setIfInBounds_toArray, List.set_cons_zero, List.set_cons_succ]
      refine wpAnyH_ready (rs := [5]) (by kernel_rfl) (by simp) ?_
      refine AllReadyH.cons (o := ⟨some 13, _, _, _, _, _⟩) rfl (fun K hK => ?_) (AllReadyH.nil)
      go_simp
      have hh := drowsOf_one C k m F T (some ⟨v_730.heap.size, 0, none⟩) 1 x v_736 (H2.out.later hHeld) (sl_oneN bl_739.out) hx
      refine hh.mono ?_; clear hh; rintro e v_741 ⟨⟨A2, c2, rfl, hG⟩, hbN⟩
      have hA2 : ∀ b o, A2 = some ⟨b, o, none⟩ → v_736.heap.size ≤ b := fun b o e => grow_new hG (hk1) e
      have fac_742 := Lib.hid hG.own.sl
      clear hG
      have hfN : Fr (fun _ => False) v_736 v_741 := Fr.of_below hbN
      have hH2 := hHeld.trans (hbN.mono hHeld.size)
      clear hbN
      go_wp2_with fail
      have hHeld := hH2
      clear hH2
      have hz_743 := hfN.size
      have bl_744 := Lib.hid (hfN.row_some bl_738.out (fun h => h))
      clear bl_738
      have bl_745 := Lib.hid (hfN.row_some bl_739.out (fun h => h))
      clear bl_739
      refine hK.out _ _ hHeld (fun _ => ?_)
      clear hK K hfN
      try simp only [Act.put, List.setIfInBounds_toArray, List.set_cons_zero, List.set_cons_succ]
      refine wpAnyH_ready (rs := [7]) (by kernel_rfl) (by simp) ?_
      refine AllReadyH.cons (o := ⟨some 15, _, _, _, _, _⟩) rfl (fun K hK => ?_) (AllReadyH.nil)
      go_simp
      have hh := mul_at C k m F T A2 c2 x A5 c5 X v_741 (H2.out.later hHeld) fac_742.out (fun b o hn e => by have := hA2 b o e; have := hHeld.size; omega) (Hs5.out.below hHeld (Nat.le_refl _)) Hoff5.out
      refine hh.mono ?_; clear hh; rintro e v_747 ⟨A6, c6, rfl, hs6, hA6, hbN⟩
      have res_748 := Lib.hid hs6
      clear hs6
      have hfN : Fr (fun _ => False) v_741 v_747 := Fr.of_below hbN
      have hH2 := hHeld.trans (hbN.mono hHeld.size)
      clear hbN
      go_wp2_with fail
      have hHeld := hH2
      clear hH2
      have hz_749 := hfN.size
      have bl_750 := Lib.hid (hfN.row_some bl_744.out (fun h => h))
      clear bl_744
      have bl_751 := Lib.hid (hfN.row_some bl_745.out (fun h => h))
      clear bl_745
      have fac_752 := Lib.hid (fac_742.out.fr hfN (fun _ _ _ _ h => h))
      clear fac_742
      refine hK.out _ _ hHeld (fun _ => ?_)
      clear hK K hfN
      try simp only [Act.put, List.setIfInBounds_toArray, List.set_cons_zero, List.set_cons_succ]
      refine wpAnyH_take (i := 8) (oi := ⟨some 7, _, _, _, _, _⟩) (v := ?vg8_753) rfl (by kernel_rfl) (by kernel_rfl) (by kernel_rfl) (fun _ _ _ h => h) (Or.inl ⟨by rfl, ?yg8_753⟩) hHeld ?rg8_753
      case yg8_753 =>
        intro wq hSw
        (try dsimp only at hSw)
        first | (go_simp; done) | (go_simp; with_reducible rfl)
      try simp only [Act.put, List.setIfInBounds_toArray, List.set_cons_zero, List.set_cons_succ]
      refine wpAnyH_take (i := 9) (oi := ⟨some 16, _, _, _, _, _⟩) (v := ?vg9_754) rfl (by kernel_rfl) (by kernel_rfl) (by kernel_rfl) (fun _ _ _ h => h) (Or.inl ⟨by rfl, ?yg9_754⟩) hHeld ?rg9_754
      case yg9_754 =>
        intro wq hSw
        (try dsimp only at hSw)
        first | (go_simp; done) | (go_simp; with_reducible rfl)
      try simp only [Act.put, List.setIfInBounds_toArray, List.set_cons_zero, List.set_cons_succ]
      refine wpAnyH_take (i := 10) (oi := ⟨some 17, _, _, _, _, _⟩) (v := ?vg10_755) rfl (by kernel_rfl) (by kernel_rfl) (by kernel_rfl) (fun _ _ _ h => h) (Or.inl ⟨by rfl, ?yg10_755⟩) hHeld ?rg10_755
      case yg10_755 =>
        intro wq hSw
        (try dsimp only at hSw)
        first | (go_simp; done) | (go_simp; with_reducible rfl)
      try simp only [Act.put, List.setIfInBounds_toArray, List.set_cons_zero, List.set_cons_succ]
      refine wpAnyH_ready (rs := [12]) (by kernel_rfl) (by simp) ?_
      refine AllReadyH.cons (o := ⟨none, _, _, _, _, _⟩) rfl (fun K hK => ?_) (AllReadyH.nil)
      have q0 := box0_0 bl_750.out; have q1 := box0_1 bl_750.out; have q2 := box0_2 bl_750.out
      have u0 := box0_free bl_750.out 0; have u1 := box0_free bl_750.out 1; have u2 := box0_free bl_750.out 2
      go_simp
      have hx := box0_set (r := 1) (c := (k : Int)) (A := A6) (n := k) (cp := c6) bl_750.out
      have hfN := box0_fr v_747 (v_501.heap.size) 1 (k : Int) A6 k c6
      have hHeld := hHeld.trans (hfN.below hHeld.size (fun k hk => by have hk : k = v_501.heap.size := hk; omega) |> fun q => q)
      have hz_757 : v_747.heap.size ≤ (((v_747.setCell ⟨v_501.heap.size, 0, none⟩ (.int .i64 1)).setCell ⟨v_501.heap.size, 1, none⟩ (.int .i64 (k : Int))).setCell ⟨v_501.heap.size, 2, none⟩ (.slice A6 k c6)).heap.size ∧ (((v_747.setCell ⟨v_501.heap.size, 0, none⟩ (.int .i64 1)).setCell ⟨v_501.heap.size, 1, none⟩ (.int .i64 (k : Int))).setCell ⟨v_501.heap.size, 2, none⟩ (.slice A6 k c6)).heap.size ≤ v_747.heap.size := by simp
      obtain ⟨v_756, hw⟩ : ∃ v_756, v_756 = (((v_747.setCell ⟨v_501.heap.size, 0, none⟩ (.int .i64 1)).setCell ⟨v_501.heap.size, 1, none⟩ (.int .i64 (k : Int))).setCell ⟨v_501.heap.size, 2, none⟩ (.slice A6 k c6)) := ⟨_, rfl⟩
      rw [← hw] at hHeld hx hfN hz_757 ⊢
      clear hw q0 q1 q2 u0 u1 u2
      clear bl_750
      have bl_758 := Lib.hid (hfN.row_some bl_751.out (fun h => by have h : v_730.heap.size = v_501.heap.size := h; omega))
      clear bl_751
      have fac_759 := Lib.hid (trivial)
      clear fac_752
      have res_760 := Lib.hid (res_748.out.fr hfN (fun b o hn hA hk => by have hk : b = v_501.heap.size := hk; have := hA6 b o hA; omega))
      clear res_748
      have bl_761 := Lib.hid hx
      clear hx
      refine hK.out _ _ hHeld (fun _ => ?_)
      clear hK K hfN
      try simp only [Act.put, List.setIfInBounds_toArray, List.set_cons_zero, List.set_cons_succ]
      refine wpAnyH_take (i := 13) (oi := ⟨some 6, _, _, _, _, _⟩) (v := ?vg13_762) rfl (by kernel_rfl) (by kernel_rfl) (by kernel_rfl) (fun _ _ _ h => h) (Or.inl ⟨by rfl, ?yg13_762⟩) hHeld ?rg13_762
      case yg13_762 =>
        intro wq hSw
        (try dsimp only at hSw)
        first | (go_simp; done) | (go_simp; with_reducible rfl)
      try simp only [Act.put, List.setIfInBounds_toArray, List.set_cons_zero, List.set_cons_succ]
      refine wpAnyH_done (by kernel_rfl) ?_ _
      have q2 := boxM_2 bl_761.out
      go_wp2_with fail
      go_ret
      exact ⟨A6, c6, rfl, res_760.out, hHeld⟩
    · go_simp
      have hbN : Below v_730.heap.size v_730 (v_730.alloc (.cells #[.int .i64 (x : Int)] 3)) := (Below.refl _ _).alloc (Nat.le_refl _) _
      have hx := heap_alloc_new v_730 (.cells #[.int .i64 (x : Int)] 3)
      have hz_764 : v_730.heap.size + 1 ≤ (v_730.alloc (.cells #[.int .i64 (x : Int)] 3)).heap.size ∧ (v_730.alloc (.cells #[.int .i64 (x : Int)] 3)).heap.size ≤ v_730.heap.size + 1 := by simp
      obtain ⟨v_763, hw⟩ : ∃ v_763, v_763 = v_730.alloc (.cells #[.int .i64 (x : Int)] 3) := ⟨_, rfl⟩
      rw [← hw] at hbN hx hz_764 ⊢
      clear hw
      have hHeld := hHeld.trans (hbN.mono hHeld.size)
      have hfN : Fr (fun _ => False) v_730 v_763 := Fr.of_below hbN
      clear hbN
      have bl_765 := Lib.hid (hfN.row_some bl_732.out (fun h => h))
      clear bl_732
      have bl_766 := Lib.hid hx
      clear hx
      refine hK.out _ _ hHeld (fun _ => ?_)
      clear hK K hfN
      try simp only [Act.put, List.setIfInBounds_toArray, List.set_cons_zero, List.set_cons_succ]
      refine wpAnyH_ready (rs := [1]) (by kernel_rfl) (by simp) ?_
      refine AllReadyH.cons (o := ⟨some 9, _, _, _, _, _⟩) rfl (fun K hK => ?_) (AllReadyH.nil)
      go_simp
      have hh := cf_any C k m F T v_763 (H2.out.later hHeld)
      refine hh.mono ?_; clear hh; rintro e wn ⟨rfl, hwn⟩
      rw [hwn]; clear hwn wn
      have hfN : Fr (fun _ => False) v_763 v_763 := Fr.refl _ _
      have hH2 := hHeld
      go_wp2_with fail
      have hHeld := hH2
      clear hH2
      have hz_768 := hfN.size
      have bl_769 := Lib.hid (hfN.row_some bl_765.out (fun h => h))
      clear bl_765
      have bl_770 := Lib.hid (hfN.row_some bl_766.out (fun h => h))
      clear bl_766
      refine hK.out _ _ hHeld (fun _ => ?_)
      clear hK K hfN
      try simp only [Act.put, List.setIfInBounds_toArray, List.set_cons_zero, List.set_cons_succ]
      refine wpAnyH_ready (rs := [5]) (by kernel_rfl) (by simp) ?_
      refine AllReadyH.cons (o := ⟨some 13, _, _, _, _, _⟩) rfl (fun K hK => ?_) (AllReadyH.nil)
      go_simp
      have hh := drowsOf_one C k m F T (some ⟨v_730.heap.size, 0, none⟩) 1 x v_763 (H2.out.later hHeld) (sl_oneN bl_770.out) hx
      refine hh.mono ?_; clear hh; rintro e v_772 ⟨⟨A2, c2, rfl, hG⟩, hbN⟩
      have hA2 : ∀ b o, A2 = some ⟨b, o, none⟩ → v_763.heap.size ≤ b := fun b o e => grow_new hG (hk1) e
      have fac_773 := Lib.hid hG.own.sl
      clear hG
      have hfN : Fr (fun _ => False) v_763 v_772 := Fr.of_below hbN
      have hH2 := hHeld.trans (hbN.mono hHeld.size)
      clear hbN
      go_wp2_with fail
      have hHeld := hH2
      clear hH2
      have hz_774 := hfN.size
      have bl_775 := Lib.hid (hfN.row_some bl_769.out (fun h => h))
      clear bl_769
      have bl_776 := Lib.hid (hfN.row_some bl_770.out (fun h => h))
      clear bl_770
      refine hK.out _ _ hHeld (fun _ => ?_)
      clear hK K hfN
      try simp only [Act.put, List.setIfInBounds_toArray, List.set_cons_zero, List.set_cons_succ]
      refine wpAnyH_ready (rs := [7]) (by kernel_rfl) (by simp) ?_
      refine AllReadyH.cons (o := ⟨some 15, _, _, _, _, _⟩) rfl (fun K hK => ?_) (AllReadyH.nil)
      go_simp
      have hh := mul_at C k m F T A2 c2 x A5 c5 X v_772 (H2.out.later hHeld) fac_773.out (fun b o hn e => by have := hA2 b o e; have := hHeld.size; omega) (Hs5.out.below hHeld (Nat.le_refl _)) Hoff5.out
      refine hh.mono ?_; clear hh; rintro e v_778 ⟨A6, c6, rfl, hs6, hA6, hbN⟩
      have res_779 := Lib.hid hs6
      clear hs6
      have hfN : Fr (fun _ => False) v_772 v_778 := Fr.of_below hbN
      have hH2 := hHeld.trans (hbN.mono hHeld.size)
      clear hbN
      go_wp2_with fail
      have hHeld := hH2
      clear hH2
      have hz_780 := hfN.size
      have bl_781 := Lib.hid (hfN.row_some bl_775.out (fun h => h))
      clear bl_775
      have bl_782 := Lib.hid (hfN.row_some bl_776.out (fun h => h))
      clear bl_776
      have fac_783 := Lib.hid (fac_773.out.fr hfN (fun _ _ _ _ h => h))
      clear fac_773
      refine hK.out _ _ hHeld (fun _ => ?_)
      clear hK K hfN
      try simp only [Act.put, List.setIfInBounds_toArray, List.set_cons_zero, List.set_cons_succ]
      refine wpAnyH_take (i := 8) (oi := ⟨some 7, _, _, _, _, _⟩) (v := ?vg8_784) rfl (by kernel_rfl) (by kernel_rfl) (by kernel_rfl) (fun _ _ _ h => h) (Or.inl ⟨by rfl, ?yg8_784⟩) hHeld ?rg8_784
      case yg8_784 =>
        intro wq hSw
        (try dsimp only at hSw)
        first | (go_simp; done) | (go_simp; with_reducible rfl)
      try simp only [Act.put, List.setIfInBounds_toArray, List.set_cons_zero, List.set_cons_succ]
      refine wpAnyH_take (i := 9) (oi := ⟨some 16, _, _, _, _, _⟩) (v := ?vg9_785) rfl (by kernel_rfl) (by kernel_rfl) (by kernel_rfl) (fun _ _ _ h => h) (Or.inl ⟨by rfl, ?yg9_785⟩) hHeld ?rg9_785
      case yg9_785 =>
        intro wq hSw
        (try dsimp only at hSw)
        first | (go_simp; done) | (go_simp; with_reducible rfl)
      try simp only [Act.put, List.setIfInBounds_toArray, List.set_cons_zero, List.set_cons_succ]
      refine wpAnyH_take (i := 10) (oi := ⟨some 17, _, _, _, _, _⟩) (v := ?vg10_786) rfl (by kernel_rfl) (by kernel_rfl) (by kernel_rfl) (fun _ _ _ h => h) (Or.inl ⟨by rfl, ?yg10_786⟩) hHeld ?rg10_786
      case yg10_786 =>
        intro wq hSw
        (try dsimp only at hSw)
        first | (go_simp; done) | (go_simp; with_reducible rfl)
      try simp only [Act.put, List.setIfInBounds_toArray, List.set_cons_zero, List.set_cons_succ]
      refine wpAnyH_ready (rs := [12]) (by kernel_rfl) (by simp) ?_
      refine AllReadyH.cons (o := ⟨none, _, _, _, _, _⟩) rfl (fun K hK => ?_) (AllReadyH.nil)
      have q0 := box0_0 bl_781.out; have q1 := box0_1 bl_781.out; have q2 := box0_2 bl_781.out
      have u0 := box0_free bl_781.out 0; have u1 := box0_free bl_781.out 1; have u2 := box0_free bl_781.out 2
      go_simp
      have hx := box0_set (r := 1) (c := (k : Int)) (A := A6) (n := k) (cp := c6) bl_781.out
      have hfN := box0_fr v_778 (v_501.heap.size) 1 (k : Int) A6 k c6
      have hHeld := hHeld.trans (hfN.below hHeld.size (fun k hk => by have hk : k = v_501.heap.size := hk; omega) |> fun q => q)
      have hz_788 : v_778.heap.size ≤ (((v_778.setCell ⟨v_501.heap.size, 0, none⟩ (.int .i64 1)).setCell ⟨v_501.heap.size, 1, none⟩ (.int .i64 (k : Int))).setCell ⟨v_501.heap.size, 2, none⟩ (.slice A6 k c6)).heap.size ∧ (((v_778.setCell ⟨v_501.heap.size, 0, none⟩ (.int .i64 1)).setCell ⟨v_501.heap.size, 1, none⟩ (.int .i64 (k : Int))).setCell ⟨v_501.heap.size, 2, none⟩ (.slice A6 k c6)).heap.size ≤ v_778.heap.size := by simp
      obtain ⟨v_787, hw⟩ : ∃ v_787, v_787 = (((v_778.setCell ⟨v_501.heap.size, 0, none⟩ (.int .i64 1)).setCell ⟨v_501.heap.size, 1, none⟩ (.int .i64 (k : Int))).setCell ⟨v_501.heap.size, 2, none⟩ (.slice A6 k c6)) := ⟨_, rfl⟩
      rw [← hw] at hHeld hx hfN hz_788 ⊢
      clear hw q0 q1 q2 u0 u1 u2
      clear bl_781
      have bl_789 := Lib.hid (hfN.row_some bl_782.out (fun h => by have h : v_730.heap.size = v_501.heap.size := h; omega))
      clear bl_782
      have fac_790 := Lib.hid (trivial)
      clear fac_783
      have res_791 := Lib.hid (res_779.out.fr hfN (fun b o hn hA hk => by have hk : b = v_501.heap.size := hk; have := hA6 b o hA; omega))
      clear res_779
      have bl_792 := Lib.hid hx
      clear hx
      refine hK.out _ _ hHeld (fun _ => ?_)
      clear hK K hfN
      try simp only [Act.put, List.setIfInBounds_toArray, List.set_cons_zero, List.set_cons_succ]
      refine wpAnyH_take (i := 13) (oi := ⟨some 6, _, _, _, _, _⟩) (v := ?vg13_793) rfl (by kernel_rfl) (by kernel_rfl) (by kernel_rfl) (fun _ _ _ h => h) (Or.inl ⟨by rfl, ?yg13_793⟩) hHeld ?rg13_793
      case yg13_793 =>
        intro wq hSw
        (try dsimp only at hSw)
        first | (go_simp; done) | (go_simp; with_reducible rfl)
      try simp only [Act.put, List.setIfInBounds_toArray, List.set_cons_zero, List.set_cons_succ]
      refine wpAnyH_done (by kernel_rfl) ?_ _
      have q2 := boxM_2 bl_792.out
      go_wp2_with fail
      go_ret
      exact ⟨A6, c6, rfl, res_791.out, hHeld⟩
end Go.Proofs.YtgoomiimlfdcmaaGreat
