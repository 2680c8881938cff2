/-
  Contracts of package code's Encode. Condition: the coder is one that New made ('Cod').
-/
import Derived.Test.YtjacdabhlnfbkaaCad
namespace Go.Proofs.Ytjacdabhlnfbkaa
open Go.RowKit Go.Proofs
set_option linter.unusedVariables false

/-- Shard i of rows of data. -/
def shard (k : Nat) (rs : List (List UInt8)) (i : Nat) : List UInt8 := sumR (rs.getD 0 []).length (rowC k i) rs k
/-- The first j rows of parity. -/
def parL (k : Nat) (rs : List (List UInt8)) (j : Nat) : List (List UInt8) := (List.range j).map fun i => shard k rs (k + i)
theorem parL_length (k : Nat) (rs : List (List UInt8)) (j : Nat) : (parL k rs j).length = j := by simp [parL]
theorem parL_next (k : Nat) (rs : List (List UInt8)) (j : Nat) : parL k rs j ++ [shard k rs (k + j)] = parL k rs (j + 1) := by simp [parL, List.range_succ]

/-- Row of a number that there is. -/
theorem crow_at (C k m F T : Nat) (i : Int) (I : Nat) (hz : i = (I : Int)) (hI : I < k + m) (w : World) (h : Cod w C k m F T) :
    Calls Try.prog 46 #[.pointer (some ⟨C, 0, none⟩), .int .i64 i] w (RetBytes w.heap.size w (rowC k I)) := by
  subst hz
  have h3 := h.n255
  have hh := crow_any C k m F T (I : Int) (by omega) (by omega) w h
  rwa [rowI, if_pos (by omega), Int.toNat_natCast] at hh

/-- While rows are filled into block g, one by one: what lay in w0 lies there still. -/
structure Enc (w0 : World) (g m : Nat) (cur : Array Value) (ps : List (List UInt8)) (w : World) : Prop where
  bel : Below w0.heap.size w0 w
  fil : Fil w g m cur ps
  new : w0.heap.size ≤ g
theorem Enc.later {w0 w w' : World} {g m : Nat} {cur : Array Value} {ps : List (List UInt8)} (h : Enc w0 g m cur ps w) (hb : Below w.heap.size w w') : Enc w0 g m cur ps w' := ⟨h.bel.trans (hb.mono h.bel.size), h.fil.later hb, h.new⟩
theorem Enc.store {w0 w w' : World} {g m : Nat} {cur : Array Value} {ps : List (List UInt8)} (h : Enc w0 g m cur ps w) {k : Nat} (hk : ps.length = k) (hkm : k < m) {A : Option Addr} {c : Nat} {r : List UInt8} (hf : Fr (fun k => k = g) w w')
    (hg : w'.heap[g]? = some (.cells (cur.setIfInBounds k (.slice A r.length c)) 22 (0, 0))) (hs : Sl w 1 A r.length c (cells r)) (hA : ∀ b o, 0 < r.length → A = some ⟨b, o, none⟩ → b ≠ g) : Enc w0 g m (cur.setIfInBounds k (.slice A r.length c)) (ps ++ [r]) w' :=
  ⟨h.bel.trans (hf.below h.bel.size (fun k hk => by have hk : k = g := hk; have := h.new; omega)), h.fil.next hf hk hkm hg (hs.fr hf fun b o hn e hk => hA b o hn e hk) hA, h.new⟩

/-- The same, where the rows' bytes are the call's own, each row by itself. -/
structure EncS (w0 : World) (g m : Nat) (cur : Array Value) (ps : List (List UInt8)) (w : World) : Prop where
  enc : Enc w0 g m cur ps w
  sep : Sep w (g + 1) w.heap.size (fun i => cur[i]?) ps
theorem EncS.bel {w0 w : World} {g m : Nat} {cur : Array Value} {ps : List (List UInt8)} (h : EncS w0 g m cur ps w) : Below w0.heap.size w0 w := h.enc.bel
theorem EncS.fil {w0 w : World} {g m : Nat} {cur : Array Value} {ps : List (List UInt8)} (h : EncS w0 g m cur ps w) : Fil w g m cur ps := h.enc.fil
theorem EncS.later {w0 w w' : World} {g m : Nat} {cur : Array Value} {ps : List (List UInt8)} (h : EncS w0 g m cur ps w) (hb : Below w.heap.size w w') : EncS w0 g m cur ps w' := ⟨h.enc.later hb, (h.sep.later hb).up hb.size⟩
theorem EncS.store {w0 w w' : World} {g m : Nat} {cur : Array Value} {ps : List (List UInt8)} (h : EncS w0 g m cur ps w) {k : Nat} (hk : ps.length = k) (hkm : k < m) {A : Option Addr} {c : Nat} {r : List UInt8} (hf : Fr (fun k => k = g) w w')
    (hg : w'.heap[g]? = some (.cells (cur.setIfInBounds k (.slice A r.length c)) 22 (0, 0))) (hs : Sl w 1 A r.length c (cells r)) (hA : ∀ b o, 0 < r.length → A = some ⟨b, o, none⟩ → b ≠ g)
    {H : Nat} (hq : Sep w (g + 1) H (fun i => cur[i]?) ps) (hgH : g + 1 ≤ H) (hHw : H ≤ w.heap.size) (hm : Mine w H 5 A r.length (cells r)) : EncS w0 g m (cur.setIfInBounds k (.slice A r.length c)) (ps ++ [r]) w' := by
  have s1 : Sep w (g + 1) w.heap.size (fun i => (cur.setIfInBounds k (.slice A r.length c))[i]?) (ps ++ [r]) := by
    refine hq.app (Sep.one (c := c) hm) (.inl (Nat.le_refl _)) (Nat.le_refl _) hgH hHw (Nat.le_refl _) (fun i hi => ?_) fun i hi => ?_
    · show (cur.setIfInBounds k (.slice A r.length c))[i]? = cur[i]?
      rw [Array.getElem?_setIfInBounds, if_neg (by omega)]
    · have hi : i < 1 := hi
      obtain rfl : i = 0 := by omega
      show (cur.setIfInBounds k (.slice A r.length c))[ps.length + 0]? = _
      rw [Array.getElem?_setIfInBounds, if_pos (by omega), if_pos (by rw [h.fil.size]; omega)]
  exact ⟨h.enc.store hk hkm hf hg hs hA, (s1.frS hf fun i x g' n' c' hi hx e hk => by
    have := (s1.ge hi hx e).1
    have hk : g' = g := hk
    omega).up hf.size⟩
theorem EncS.gm {w0 w : World} {g m : Nat} {cur : Array Value} {ps : List (List UInt8)} (h : EncS w0 g m cur ps w) (hl : ps.length = m) (hm : m ≤ maxLen) : Gm w w0.heap.size (some ⟨g, 0, none⟩) m m ps := by
  refine ⟨⟨cur.toList, h.fil.grV hl hm, ?_, fun i r A' c' hi hv => ?_⟩⟩
  · have := h.sep.lower (B' := w0.heap.size) (by have := h.enc.new; omega)
    have e : (fun (i : Nat) => cur.toList[i]?) = fun (i : Nat) => cur[i]? := by funext i; simp
    rw [e]
    exact this
  · intro b o o' hn e1 e2
    obtain ⟨A2, c2, h1, _, h3⟩ := h.fil.rows i r hi
    rw [Array.getElem?_toList] at hv
    rw [hv] at h1
    injection h1 with h1
    injection h1 with h1
    injection e2 with e2
    injection e2 with e2
    subst e2
    exact h3 g o hn (h1.symm.trans e1) rfl

set_option maxRecDepth 20000 in
set_option maxHeartbeats 3200000 in
theorem encode_own (C k m F T : Nat) (A : Option Addr) (n c : Nat) (rs : List (List UInt8)) (w : World) (h : Cod w C k m F T) (hg : Gr w A n c rs) (hW : ∀ r ∈ rs, r.length ≤ 1048576) :
    Calls Try.prog 21 #[.pointer (some ⟨C, 0, none⟩), .slice A n c] w fun e w' => Below w.heap.size w w' ∧
      (evenB rs (k : Int) = false ∧ e = .returned (.tuple #[.slice none 0 0, .int .i64 2]) ∨ evenB rs (k : Int) = true ∧ ∃ g, e = .returned (.tuple #[.slice (some ⟨g, 0, none⟩) m m, .int .i64 0]) ∧ w.heap.size ≤ g ∧ Gm w' w.heap.size (some ⟨g, 0, none⟩) m m (parL k rs m)) := by
  have hm := cmade_any C k m F T w h
  have h3 := h.n255
  have hk1 := h.k1
  have hlim := hg.lim
  unfold maxLen at hlim
  have H := Lib.hid h; clear h
  have Hg := Lib.hid hg; clear hg
  have ht := fun u hu => takes_any (k : Int) (m : Int) A n c rs u hu
  by_cases hev : evenB rs (k : Int) = true
  · rw [hev] at ht
    have hmk := makes_eq (m : Int) m rfl (by omega)
    have hef := enters_fold
    have hmf : ∀ (fn : Fn) (first cap : Array Value) (w : World), (Instr.makeFunc fn first cap).run Try.prog w = .ok (.func fn first cap) w := fun _ _ _ _ => rfl
    have hnk : n = k := by
      rw [evenB, Bool.and_eq_true] at hev
      have := of_decide_eq_true hev.1
      have := Hg.out.len
      omega
    subst hnk
    have hlv : levelB rs = true := by
      rw [evenB, Bool.and_eq_true] at hev
      exact hev.2
    have hW0 : (rs.getD 0 []).length ≤ 1048576 := by
      have := Hg.out.get (i := 0) (by omega)
      exact hW _ (List.mem_of_getElem? this)
    have Hev := Lib.hid hev; clear hev
    go_enter Try.func21, Try.ntmps21
    go_wp2_with fail
    refine hm.mono ?_; clear hm; rintro e w1 ⟨rfl, j, hw1⟩
    have hb1 : Below w.heap.size w w1 := by rw [hw1]; exact below_drewN (Below.refl _ _) j
    clear hw1
    have H1 := Lib.hid (H.out.later hb1)
    have c0 := H1.out.c0
    have c1 := H1.out.c1
    go_wp2_with fail
    refine (ht _ (Hg.out.later hb1)).mono ?_; clear ht; rintro e w2 ⟨rfl, hb2⟩
    have H2 := Lib.hid (H1.out.later hb2)
    have hb := hb1.trans (hb2.mono hb1.size)
    have hsz2 := hb.size
    have Hb := Lib.hid hb
    clear c0 c1 hb1 hb2 hb
    have c1 := H2.out.c1
    go_wp2_with fail
    clear c1
    go_loopw [26] (fun i wr => ∃ (k : Nat) (cur : Array Value), k ≤ m ∧ i = .int .i64 (k : Int) ∧ EncS w2 w2.heap.size m cur (parL n rs k) wr) (fun i _ => m - (intOf i).toNat)
    case atStart => exact ⟨0, _, by omega, rfl, ⟨(Below.refl _ _).alloc (Nat.le_refl _) _, Fil.made w2 m, Nat.le_refl _⟩, Sep.nil _ _ _ _⟩
    case round =>
      obtain ⟨i, cur, hi, rfl, hE⟩ := hrel
      have E := Lib.hid hE; clear hE
      by_cases hlt : i < m
      · go_upto_region 9 with (fail)
        have hii : (i : Int) < (m : Int) := by omega
        have st0 := Lib.hid (E.out.later (Below.drew (Below.refl _ _)))
        refine wp_region_held_drew (S := fun w' => Fr (fun k => k = w2.heap.size) wr w') (by kernel_rfl) (Fr.drew (Fr.refl _ _)) (fun hHeld => ?_)
        clear hHeld
        have hHeld : Fr (fun k => k = w2.heap.size) wr wr.drew := Fr.drew (Fr.refl _ _)
        have hz_0 : wr.heap.size ≤ wr.drew.heap.size := Nat.le_refl _
        obtain ⟨v_1, hw⟩ : ∃ v_1, v_1 = wr.drew := ⟨_, rfl⟩
        rw [← hw] at hHeld hz_0 st0 ⊢
        clear hw
        refine wpAnyH_take (i := 0) (oi := ⟨some 29, _, _, _, _, _⟩) (v := ?vg0_2) rfl (by kernel_rfl) (by kernel_rfl) (by kernel_rfl) (fun _ _ _ h => h) (Or.inl ⟨by rfl, ?yg0_2⟩) hHeld ?rg0_2
        case yg0_2 =>
          intro wq hSw
          (try dsimp only at hSw)
          first | (go_simp; done) | (go_simp; with_reducible rfl)
        try simp only [Act.put, List.setIfInBounds_toArray, List.set_cons_zero, List.set_cons_succ]
        refine wpAnyH_take (i := 1) (oi := ⟨some 30, _, _, _, _, _⟩) (v := ?vg1_3) rfl (by kernel_rfl) (by kernel_rfl) (by kernel_rfl) (fun _ _ _ h => h) (Or.inl ⟨by rfl, ?yg1_3⟩) hHeld ?rg1_3
        case yg1_3 =>
          intro wq hSw
          (try dsimp only at hSw)
          first | (go_simp; done) | (go_simp; with_reducible rfl)
        try simp only [Act.put, List.setIfInBounds_toArray, List.set_cons_zero, List.set_cons_succ]
        refine wpAnyH_take (i := 2) (oi := ⟨some 31, _, _, _, _, _⟩) (v := ?vg2_4) rfl (by kernel_rfl) (by kernel_rfl) (by kernel_rfl) (fun _ _ _ h => h) (Or.inl ⟨by rfl, ?yg2_4⟩) hHeld ?rg2_4
        case yg2_4 =>
          intro wq hSw
          (try dsimp only at hSw)
          first | (go_simp; done) | (go_simp; with_reducible rfl)
        try simp only [Act.put, List.setIfInBounds_toArray, List.set_cons_zero, List.set_cons_succ]
        refine wpAnyH_take (i := 3) (oi := ⟨some 32, _, _, _, _, _⟩) (v := ?vg3_5) rfl (by kernel_rfl) (by kernel_rfl) (by kernel_rfl) (fun _ _ _ h => h) (Or.inl ⟨by rfl, ?yg3_5⟩) hHeld ?rg3_5
        case yg3_5 =>
          intro wq hSw
          (try dsimp only at hSw)
          first | (go_simp; done) | (go_simp; with_reducible rfl)
        try simp only [Act.put, List.setIfInBounds_toArray, List.set_cons_zero, List.set_cons_succ]
        refine wpAnyH_take (i := 4) (oi := ⟨some 33, _, _, _, _, _⟩) (v := ?vg4_6) rfl (by kernel_rfl) (by kernel_rfl) (by kernel_rfl) (fun _ _ _ h => h) (Or.inl ⟨by rfl, ?yg4_6⟩) hHeld ?rg4_6
        case yg4_6 =>
          intro wq hSw
          (try dsimp only at hSw)
          first | (go_simp; done) | (go_simp; with_reducible rfl)
        try simp only [Act.put, List.setIfInBounds_toArray, List.set_cons_zero, List.set_cons_succ]
        refine wpAnyH_take (i := 5) (oi := ⟨some 34, _, _, _, _, _⟩) (v := ?vg5_7) rfl (by kernel_rfl) (by kernel_rfl) (by kernel_rfl) (fun _ _ _ h => h) (Or.inl ⟨by rfl, ?yg5_7⟩) hHeld ?rg5_7
        case yg5_7 =>
          intro wq hSw
          (try dsimp only at hSw)
          first | (go_simp; done) | (go_simp; with_reducible rfl)
        try simp only [Act.put, List.setIfInBounds_toArray, List.set_cons_zero, List.set_cons_succ]
        refine wpAnyH_take (i := 6) (oi := ⟨some 35, _, _, _, _, _⟩) (v := ?vg6_8) rfl (by kernel_rfl) (by kernel_rfl) (by kernel_rfl) (fun _ _ _ h => h) (Or.inl ⟨by rfl, ?yg6_8⟩) hHeld ?rg6_8
        case yg6_8 =>
          intro wq hSw
          (try dsimp only at hSw)
          first | (go_simp; done) | (go_simp; with_reducible rfl)
        try simp only [Act.put, List.setIfInBounds_toArray, List.set_cons_zero, List.set_cons_succ]
        refine wpAnyH_take (i := 7) (oi := ⟨some 36, _, _, _, _, _⟩) (v := ?vg7_9) rfl (by kernel_rfl) (by kernel_rfl) (by kernel_rfl) (fun _ _ _ h => h) (Or.inl ⟨by rfl, ?yg7_9⟩) hHeld ?rg7_9
        case yg7_9 =>
          intro wq hSw
          (try dsimp only at hSw)
          have q0 := hSw.cell_some (H2.out.later E.out.bel).c0 (by have := H2.out.row; have := block_lt this; show ¬ C = _; omega)
          first | (go_simp; done) | (go_simp; with_reducible rfl)
        try simp only [Act.put, List.setIfInBounds_toArray, List.set_cons_zero, List.set_cons_succ]
        refine wpAnyH_take (i := 8) (oi := ⟨some 37, _, _, _, _, _⟩) (v := ?vg8_10) rfl (by kernel_rfl) (by kernel_rfl) (by kernel_rfl) (fun _ _ _ h => h) (Or.inl ⟨by rfl, ?yg8_10⟩) hHeld ?rg8_10
        case yg8_10 =>
          intro wq hSw
          (try dsimp only at hSw)
          first | (go_simp; done) | (go_simp; with_reducible rfl)
        try simp only [Act.put, List.setIfInBounds_toArray, List.set_cons_zero, List.set_cons_succ]
        refine wpAnyH_take (i := 9) (oi := ⟨some 38, _, _, _, _, _⟩) (v := ?vg9_11) rfl (by kernel_rfl) (by kernel_rfl) (by kernel_rfl) (fun _ _ _ h => h) (Or.inl ⟨by rfl, ?yg9_11⟩) hHeld ?rg9_11
        case yg9_11 =>
          intro wq hSw
          (try dsimp only at hSw)
          first | (go_simp; done) | (go_simp; with_reducible rfl)
        try simp only [Act.put, List.setIfInBounds_toArray, List.set_cons_zero, List.set_cons_succ]
        refine wpAnyH_take (i := 11) (oi := ⟨some 40, _, _, _, _, _⟩) (v := ?vg11_12) rfl (by kernel_rfl) (by kernel_rfl) (by kernel_rfl) (fun _ _ _ h => h) (Or.inl ⟨by rfl, ?yg11_12⟩) hHeld ?rg11_12
        case yg11_12 =>
          intro wq hSw
          (try dsimp only at hSw)
          first | (go_simp; done) | (go_simp; with_reducible rfl)
        try simp only [Act.put, List.setIfInBounds_toArray, List.set_cons_zero, List.set_cons_succ]
        refine wpAnyH_take (i := 12) (oi := ⟨some 41, _, _, _, _, _⟩) (v := ?vg12_13) rfl (by kernel_rfl) (by kernel_rfl) (by kernel_rfl) (fun _ _ _ h => h) (Or.inl ⟨by rfl, ?yg12_13⟩) hHeld ?rg12_13
        case yg12_13 =>
          intro wq hSw
          (try dsimp only at hSw)
          first | (go_simp; done) | (go_simp; with_reducible rfl)
        try simp only [Act.put, List.setIfInBounds_toArray, List.set_cons_zero, List.set_cons_succ]
        refine wpAnyH_take (i := 13) (oi := ⟨some 42, _, _, _, _, _⟩) (v := ?vg13_14) rfl (by kernel_rfl) (by kernel_rfl) (by kernel_rfl) (fun _ _ _ h => h) (Or.inl ⟨by rfl, ?yg13_14⟩) hHeld ?rg13_14
        case yg13_14 =>
          intro wq hSw
          (try dsimp only at hSw)
          first | (go_simp; done) | (go_simp; with_reducible rfl)
        try simp only [Act.put, List.setIfInBounds_toArray, List.set_cons_zero, List.set_cons_succ]
        refine wpAnyH_take (i := 14) (oi := ⟨some 43, _, _, _, _, _⟩) (v := ?vg14_15) rfl (by kernel_rfl) (by kernel_rfl) (by kernel_rfl) (fun _ _ _ h => h) (Or.inl ⟨by rfl, ?yg14_15⟩) hHeld ?rg14_15
        case yg14_15 =>
          intro wq hSw
          (try dsimp only at hSw)
          first | (go_simp; done) | (go_simp; with_reducible rfl)
        try simp only [Act.put, List.setIfInBounds_toArray, List.set_cons_zero, List.set_cons_succ]
        refine wpAnyH_take (i := 15) (oi := ⟨some 44, _, _, _, _, _⟩) (v := ?vg15_16) rfl (by kernel_rfl) (by kernel_rfl) (by kernel_rfl) (fun _ _ _ h => h) (Or.inl ⟨by rfl, ?yg15_16⟩) hHeld ?rg15_16
        case yg15_16 =>
          intro wq hSw
          (try dsimp only at hSw)
          have q0 := hSw.cell_some (H2.out.later E.out.bel).c2 (by have := H2.out.row; have := block_lt this; show ¬ C = _; omega)
          first | (go_simp; done) | (go_simp; with_reducible rfl)
        try simp only [Act.put, List.setIfInBounds_toArray, List.set_cons_zero, List.set_cons_succ]
        refine wpAnyH_take (i := 16) (oi := ⟨some 45, _, _, _, _, _⟩) (v := ?vg16_17) rfl (by kernel_rfl) (by kernel_rfl) (by kernel_rfl) (fun _ _ _ h => h) (Or.inl ⟨by rfl, ?yg16_17⟩) hHeld ?rg16_17
        case yg16_17 =>
          intro wq hSw
          (try dsimp only at hSw)
          first | (go_simp; done) | (go_simp; with_reducible rfl)
        try simp only [Act.put, List.setIfInBounds_toArray, List.set_cons_zero, List.set_cons_succ]
        refine wpAnyH_ready (rs := [10]) (by kernel_rfl) (by simp) ?_
        refine AllReadyH.cons (o := ⟨some 39, _, _, _, _, _⟩) rfl (fun K hK => ?_) (AllReadyH.nil)
        go_simp
        refine (crow_at C n m F T _ (n + i) ?za (by omega) v_1 (H2.out.later st0.out.bel)).mono ?_
        case za => first | (rw [IntKind.wrap_i64]; omega) | omega | (unfold wrap64; omega)
        rintro e v_18 ⟨Ar, nr, cr, rfl, hsr, hbN⟩
        have st_19 := Lib.hid (st0.out.later hbN)
        have hfN : Fr (fun k => k = w2.heap.size) v_1 v_18 := Fr.of_below hbN
        have hnr : nr = n := by
          have := hsr.len
          rw [cells_length, rowC_length] at this
          omega
        subst hnr
        have Hsr := Lib.hid hsr
        clear hsr hbN
        go_wp2_with fail
        have hHeld := hHeld.trans hfN
        have hz_20 := hfN.size
        refine hK.out _ _ hHeld (fun _ => ?_)
        clear hK K hfN
        try simp only [Act.put, List.setIfInBounds_toArray, List.set_cons_zero, List.set_cons_succ]
        refine wpAnyH_ready (rs := [17]) (by kernel_rfl) (by simp) ?_
        refine AllReadyH.cons (o := ⟨some 46, _, _, _, _, _⟩) rfl (fun K hK => ?_) (AllReadyH.nil)
        go_simp
        have hh := reckon_any F T Ar nr cr (rowC nr (nr + i)) A nr c rs v_18 (H2.out.later st_19.out.bel).fld Hsr.out (Hg.out.later (Hb.out.trans (st_19.out.bel.mono hsz2))) (by omega) (by omega) hlv hW0
        refine hh.mono ?_; clear hh; rintro e v_21 ⟨Ap, np, cp, rfl, hsp, hbN, hmp⟩
        have st_22 := Lib.hid (st_19.out.later hbN)
        have hfN : Fr (fun k => k = w2.heap.size) v_18 v_21 := Fr.of_below hbN
        have hnp : np = (shard nr rs (nr + i)).length := by
          have := hsp.len
          rw [cells_length] at this
          have e : (shard nr rs (nr + i)).length = (sumR (rs.getD 0 []).length (rowC nr (nr + i)) rs nr).length := rfl
          omega
        subst hnp
        have Hsp := Lib.hid (show Sl v_21 1 Ap (shard nr rs (nr + i)).length cp (cells (shard nr rs (nr + i))) from hsp)
        have Hap := Lib.hid (fun b o (hn : 0 < (shard nr rs (nr + i)).length) (e : Ap = some ⟨b, o, none⟩) => show b ≠ w2.heap.size from by
          obtain ⟨gp, cur', e', hgp, _⟩ := hmp hn
          rw [e] at e'; injection e' with e'; injection e' with e' _
          have := st_19.out.fil.row
          have := block_lt this
          omega)
        have Hmp := Lib.hid (show Mine v_21 v_18.heap.size 5 Ap (shard nr rs (nr + i)).length (cells (shard nr rs (nr + i))) from hmp)
        have Hqs := Lib.hid (st_19.out.sep.later hbN)
        have HgH := Lib.hid (show w2.heap.size + 1 ≤ v_18.heap.size from block_lt st_19.out.fil.row)
        have HHw := Lib.hid hbN.size
        clear hsp hmp hbN
        go_wp2_with fail
        have hHeld := hHeld.trans hfN
        have hz_23 := hfN.size
        refine hK.out _ _ hHeld (fun _ => ?_)
        clear hK K hfN
        try simp only [Act.put, List.setIfInBounds_toArray, List.set_cons_zero, List.set_cons_succ]
        refine wpAnyH_take (i := 18) (oi := ⟨some 47, _, _, _, _, _⟩) (v := ?vg18_24) rfl (by kernel_rfl) (by kernel_rfl) (by kernel_rfl) (fun _ _ _ h => h) (Or.inl ⟨by rfl, ?yg18_24⟩) hHeld ?rg18_24
        case yg18_24 =>
          intro wq hSw
          (try dsimp only at hSw)
          first | (go_simp; done) | (go_simp; with_reducible rfl)
        try simp only [Act.put, List.setIfInBounds_toArray, List.set_cons_zero, List.set_cons_succ]
        refine wpAnyH_ready (rs := [19]) (by kernel_rfl) (by simp) ?_
        refine AllReadyH.cons (o := ⟨none, _, _, _, _, _⟩) rfl (fun K hK => ?_) (AllReadyH.nil)
        obtain ⟨v0, hv0⟩ := st_22.out.fil.has hlt
        have hz0 := st_22.out.fil.free i
        go_simp
        have hfN : Fr (fun k => k = w2.heap.size) v_21 (v_21.setCell ⟨w2.heap.size, i, none⟩ (.slice Ap (shard nr rs (nr + i)).length cp)) := Fr.setCell (S := fun k => k = w2.heap.size) (Fr.refl _ _) (.inr rfl) _
        have hgN := heap_setCell_same v_21 w2.heap.size i cur _ (.slice Ap (shard nr rs (nr + i)).length cp) st_22.out.fil.row
        obtain ⟨v_25, hw⟩ : ∃ v, v = v_21.setCell ⟨w2.heap.size, i, none⟩ (.slice Ap (shard nr rs (nr + i)).length cp) := ⟨_, rfl⟩
        rw [← hw] at hfN hgN ⊢
        clear hw hv0 hz0
        have st_26 := Lib.hid (st_22.out.store (parL_length _ _ _) hlt hfN hgN Hsp.out Hap.out Hqs.out HgH.out HHw.out Hmp.out)
        clear hgN
        have hHeld := hHeld.trans hfN
        have hz_27 := hfN.size
        refine hK.out _ _ hHeld (fun _ => ?_)
        clear hK K hfN
        try simp only [Act.put, List.setIfInBounds_toArray, List.set_cons_zero, List.set_cons_succ]
        refine wpAnyH_done (by kernel_rfl) ?_ _
        have hfin := st_26.out
        rw [parL_next] at hfin
        have Hfin := Lib.hid hfin; clear hfin
        go_wp2_with fail
        go_roundw
        case rel => exact ⟨i + 1, _, by omega, by go_num, Hfin.out⟩
        case measure => simp [intOf]; omega
      · obtain rfl : i = m := by omega
        go_wp2_with fail
        go_ret2
        refine ⟨Hb.out.trans (E.out.bel.mono hsz2), .inr ⟨Hev.out, w2.heap.size, rfl, hsz2, (E.out.gm (parL_length _ _ _) (by unfold maxLen; omega)).lower hsz2⟩⟩
  · have hev' : evenB rs (k : Int) = false := by simpa using hev
    rw [hev'] at ht
    have Hev := Lib.hid hev'; clear hev hev'
    go_enter Try.func21, Try.ntmps21
    go_wp2_with fail
    refine hm.mono ?_; clear hm; rintro e w1 ⟨rfl, j, hw1⟩
    have hb1 : Below w.heap.size w w1 := by rw [hw1]; exact below_drewN (Below.refl _ _) j
    clear hw1
    have H1 := Lib.hid (H.out.later hb1)
    have c0 := H1.out.c0
    have c1 := H1.out.c1
    go_wp2_with fail
    refine (ht _ (Hg.out.later hb1)).mono ?_; clear ht; rintro e w2 ⟨rfl, hb2⟩
    have hb := hb1.trans (hb2.mono hb1.size)
    clear c0 c1 hb1 hb2
    go_wp2_with fail
    go_ret2
    exact ⟨hb, .inl ⟨Hev.out, rfl⟩⟩
theorem encode_any (C k m F T : Nat) (A : Option Addr) (n c : Nat) (rs : List (List UInt8)) (w : World) (h : Cod w C k m F T) (hg : Gr w A n c rs) (hW : ∀ r ∈ rs, r.length ≤ 1048576) :
    Calls Try.prog 21 #[.pointer (some ⟨C, 0, none⟩), .slice A n c] w fun e w' => Below w.heap.size w w' ∧
      (evenB rs (k : Int) = false ∧ e = .returned (.tuple #[.slice none 0 0, .int .i64 2]) ∨ evenB rs (k : Int) = true ∧ ∃ g, e = .returned (.tuple #[.slice (some ⟨g, 0, none⟩) m m, .int .i64 0]) ∧ Gr w' (some ⟨g, 0, none⟩) m m (parL k rs m)) := by
  refine (encode_own C k m F T A n c rs w h hg hW).mono ?_
  rintro e w' ⟨hb, hR⟩
  exact ⟨hb, hR.imp id fun ⟨h1, g, h2, _, h3⟩ => ⟨h1, g, h2, h3.gr⟩⟩
end Go.Proofs.Ytjacdabhlnfbkaa
