/-
  Contracts of package matrix's At and Pick, of slices.IndexFunc and ContainsFunc over integers with Pick's own test. No condition. (Written by gen_mem.py.)
-/
import Derived.Test.YtccnoflgbopjlaaOpen
import Derived.Test.YtccnoflgbopjlaaMds
import Derived.Test.YtccnoflgbopjlaaMea
namespace Go.Proofs.Ytccnoflgbopjlaa
open Go.RowKit Go.Proofs
set_option linter.unusedVariables false

theorem atR_no {r c : Int} {n : Nat} {l : List UInt8} {i j : Int} (h : ¬ (rightB r c n = true ∧ withinB i r = true ∧ withinB j c = true)) : atR r c n l i j = 0 := by
  rw [atR, if_neg]
  intro ⟨h1, h2, h3, h4, h5⟩
  exact h ⟨h1, withinB_t ⟨h2, h3⟩, withinB_t ⟨h4, h5⟩⟩

set_option maxRecDepth 20000 in
set_option maxHeartbeats 1600000 in
theorem mat_any (r c : Int) (A : Option Addr) (n cp : Nat) (l : List UInt8) (i j : Int) (w : World) (h : Sl w 1 A n cp (cells l)) :
    Calls Try.prog 16 #[.agg #[.int .i64 r, .int .i64 c, .slice A n cp], .int .i64 i, .int .i64 j] w fun e w' => e = .returned (.int .u8 ((atR r c n l i j).toNat : Int)) ∧ Below w.heap.size w w' := by
  have hn := h.lim
  have hl := h.len
  rw [cells_length, Nat.mul_one] at hl
  have Hs := Lib.hid h; clear h
  have Hl := Lib.hid hl; clear hl
  have hb0 : Below w.heap.size w (w.alloc (boxM r c A n cp)) := (Below.refl _ _).alloc (Nat.le_refl _) _
  have hx0 := heap_alloc_new w (boxM r c A n cp)
  have Hb0 := Lib.hid hb0; clear hb0
  have Hx0 := Lib.hid hx0; clear hx0
  by_cases hr : rightB r c n = true
  · by_cases hi : withinB i r = true
    · by_cases hj : withinB j c = true
      · have hin1 := of_decide_eq_true hi
        have hin2 := of_decide_eq_true hj
        obtain ⟨R, C, rfl, rfl, h1, h2, h3, h4, rfl⟩ := rightB_nat hr
        obtain ⟨I, rfl⟩ := Int.eq_ofNat_of_zero_le hin1.1
        obtain ⟨J, rfl⟩ := Int.eq_ofNat_of_zero_le hin2.1
        have hI : I < R := by omega
        have hJ : J < C := by omega
        have hk := idx_lt hI hJ
        have hRC : R * C ≤ 255 * 255 := Nat.mul_le_mul h2 h4
        have hat : atR (R : Int) (C : Int) (R * C) l (I : Int) (J : Int) = l.getD (I * C + J) 0 := by
          rw [atR, if_pos ⟨hr, hin1.1, hin1.2, hin2.1, hin2.2⟩]
          congr 1
        have hkl : I * C + J < l.length := by rw [Hl.out]; exact hk
        obtain ⟨b, o, hA, hc⟩ := Hs.out.at_ (k := I * C + J) hk
        have hcell := hc _ _ (cells_get l _ hkl)
        have hgd : l.getD (I * C + J) 0 = l[I * C + J] := by simp [hkl]
        rw [hat, hgd]
        rw [bv] at hcell
        obtain ⟨x, hx⟩ : ∃ x, x = l[I * C + J] := ⟨_, rfl⟩
        rw [← hx] at hcell ⊢
        clear hx hgd hat hc hin1 hin2
        obtain ⟨q, hq⟩ : ∃ q, q = I * C := ⟨_, rfl⟩
        obtain ⟨N, hN⟩ : ∃ N, N = R * C := ⟨_, rfl⟩
        have hqi : (I : Int) * (C : Int) = (q : Int) := by rw [hq]; simp
        rw [← hq] at hk hkl hcell
        rw [← hN] at hk hRC hr hn Hb0 Hx0 Hs ⊢
        have Hc := Lib.hid hcell; clear hcell
        have Hr := Lib.hid hr; clear hr
        have Hi := Lib.hid hi; clear hi
        have Hj := Lib.hid hj; clear hj
        have Hkl := Lib.hid hkl; clear hkl
        clear hq hN
        subst hA
        go_enter Try.func16, Try.ntmps16
        go_wp2_with fail
        have hh := right_any (R : Int) (C : Int) (some ⟨b, o, none⟩) N cp hn (w.alloc (boxM (R : Int) (C : Int) (some ⟨b, o, none⟩) N cp))
        refine hh.mono ?_; clear hh; rintro e w2 ⟨rfl, hb⟩
        rw [Hr.out]
        have hx2 := (hb.block _ (block_lt Hx0.out)).trans Hx0.out
        have hbw := Hb0.out.trans (hb.mono Hb0.out.size)
        have hcell := (hbw.cell (World.block_lt_of_cell? w _ Hc.out)).trans Hc.out
        have b0 := boxM_0 hx2; have b1 := boxM_1 hx2; have b2 := boxM_2 hx2
        have Hbw := Lib.hid hbw; clear hbw hb hx2
        go_wp2_with fail
        refine (within_any (I : Int) (R : Int) _).mono ?_; rintro e w3 ⟨rfl, rfl⟩
        rw [Hi.out]
        go_wp2_with fail
        refine (within_any (J : Int) (C : Int) _).mono ?_; rintro e w3 ⟨rfl, rfl⟩
        rw [Hj.out]
        go_wp2_with fail
        go_ret
        exact ⟨rfl, Hbw.out⟩
      · rw [atR_no (fun h => hj h.2.2)]
        have Hr := Lib.hid hr; clear hr
        have Hi := Lib.hid hi; clear hi
        have Hj := Lib.hid (show withinB j c = false by simpa using hj); clear hj
        go_enter Try.func16, Try.ntmps16
        go_wp2_with fail
        have hh := right_any r c A n cp hn (w.alloc (boxM r c A n cp))
        refine hh.mono ?_; clear hh; rintro e w2 ⟨rfl, hb⟩
        rw [Hr.out]
        have hx2 := (hb.block _ (block_lt Hx0.out)).trans Hx0.out
        have hbw := Hb0.out.trans (hb.mono Hb0.out.size)
        have b0 := boxM_0 hx2; have b1 := boxM_1 hx2; have b2 := boxM_2 hx2
        have Hbw := Lib.hid hbw; clear hbw hb hx2
        go_wp2_with fail
        refine (within_any i r _).mono ?_; rintro e w3 ⟨rfl, rfl⟩
        rw [Hi.out]
        go_wp2_with fail
        refine (within_any j c _).mono ?_; rintro e w3 ⟨rfl, rfl⟩
        rw [Hj.out]
        go_wp2_with fail
        go_ret
        exact ⟨rfl, Hbw.out⟩
    · rw [atR_no (fun h => hi h.2.1)]
      have Hr := Lib.hid hr; clear hr
      have Hi := Lib.hid (show withinB i r = false by simpa using hi); clear hi
      go_enter Try.func16, Try.ntmps16
      go_wp2_with fail
      have hh := right_any r c A n cp hn (w.alloc (boxM r c A n cp))
      refine hh.mono ?_; clear hh; rintro e w2 ⟨rfl, hb⟩
      rw [Hr.out]
      have hx2 := (hb.block _ (block_lt Hx0.out)).trans Hx0.out
      have hbw := Hb0.out.trans (hb.mono Hb0.out.size)
      have b0 := boxM_0 hx2; have b1 := boxM_1 hx2; have b2 := boxM_2 hx2
      have Hbw := Lib.hid hbw; clear hbw hb hx2
      go_wp2_with fail
      refine (within_any i r _).mono ?_; rintro e w3 ⟨rfl, rfl⟩
      rw [Hi.out]
      go_wp2_with fail
      go_ret
      exact ⟨rfl, Hbw.out⟩
  · rw [atR_no (fun h => hr h.1)]
    have Hr := Lib.hid (show rightB r c n = false by simpa using hr); clear hr
    go_enter Try.func16, Try.ntmps16
    go_wp2_with fail
    have hh := right_any r c A n cp hn (w.alloc (boxM r c A n cp))
    refine hh.mono ?_; clear hh; rintro e w2 ⟨rfl, hb⟩
    rw [Hr.out]
    have hx2 := (hb.block _ (block_lt Hx0.out)).trans Hx0.out
    have hbw := Hb0.out.trans (hb.mono Hb0.out.size)
    have b0 := boxM_0 hx2; have b1 := boxM_1 hx2; have b2 := boxM_2 hx2
    have Hbw := Lib.hid hbw; clear hbw hb hx2
    go_wp2_with fail
    go_ret
    exact ⟨rfl, Hbw.out⟩

theorem bnot_t : ∀ {x : Bool}, true = (!x) → x = false := by decide
theorem bnot_f : ∀ {x : Bool}, false = (!x) → x = true := by decide
/-- Each of l is one of r numbers. -/
def allIn (l : List Int) (r : Int) : Bool := l.all fun z => withinB z r
set_option maxRecDepth 20000 in
theorem pick1_any (z r : Int) (b : Nat) (w : World) (hb : w.cell? ⟨b, 0, none⟩ = some (.int .i64 r)) :
    Calls Try.prog 29 #[.int .i64 z, .pointer (some ⟨b, 0, none⟩)] w fun e w' => e = .returned (.bool (!withinB z r)) ∧ w' = w := by
  go_enter Try.func29, Try.ntmps29
  go_wp2_with fail
  refine (within_any z r _).mono ?_; rintro e w3 ⟨rfl, rfl⟩
  go_wp2_with fail
  go_ret
  exact ⟨rfl, rfl⟩
set_option maxRecDepth 20000 in
set_option maxHeartbeats 800000 in
theorem indexi_any (A : Option Addr) (n cp : Nat) (l : List Int) (r : Int) (b : Nat) (w : World) (h : Sl w 1 A n cp (icells l)) (hb : w.cell? ⟨b, 0, none⟩ = some (.int .i64 r)) :
    Calls Try.prog 51 #[.slice A n cp, .func (.func 29) #[] #[.pointer (some ⟨b, 0, none⟩)]] w
      fun e w' => w' = w ∧ ((e = .returned (.int .i64 (-1)) ∧ allIn l r = true) ∨ ∃ d : Nat, e = .returned (.int .i64 (d : Int)) ∧ allIn l r = false) := by
  have hn := h.lim
  unfold maxLen at hn
  have hl := h.len
  rw [icells_length, Nat.mul_one] at hl
  have Hs := Lib.hid h; clear h
  have Hl := Lib.hid hl; clear hl
  go_enter Try.func51, Try.ntmps51
  go_wp2_with fail
  go_loopw [8] (fun i wr => ∃ k : Nat, k ≤ n ∧ i = .int .i64 (k : Int) ∧ wr = w ∧ ∀ j (hj : j < l.length), j < k → withinB l[j] r = true) (fun i _ => n - (intOf i).toNat)
  case atStart => exact ⟨0, by omega, rfl, rfl, fun j _ hj => absurd hj (by omega)⟩
  case round =>
    obtain ⟨k, hk, rfl, rfl, hz⟩ := hrel
    have Hz := Lib.hid hz; clear hz
    by_cases hlt : k < n
    · have hkl : k < l.length := by rw [Hl.out]; exact hlt
      obtain ⟨b1, o1, rfl, hc⟩ := Hs.out.at_ hlt
      have hcell := hc k _ (icells_get l k hkl)
      clear hc
      obtain ⟨z, hzz⟩ : ∃ z, z = l[k] := ⟨_, rfl⟩
      rw [← hzz] at hcell
      have Hzz := Lib.hid hzz; clear hzz
      have hh := pick1_any z r b _ hb
      by_cases hx : withinB z r = true
      · rw [hx] at hh
        have Hx := Lib.hid hx; clear hx
        go_wp2_with fail
        refine hh.mono ?_; clear hh; rintro e w' ⟨rfl, rfl⟩
        go_wp2_with fail
        go_roundw
        case rel => exact ⟨k + 1, by omega, by go_num, trivial, fun j hj hjk => by
          by_cases he : j = k
          · subst he; rw [← Hzz.out]; exact Hx.out
          · exact Hz.out j hj (by omega)⟩
        case measure => simp [intOf]; omega
      · have hx' : withinB z r = false := by simpa using hx
        rw [hx'] at hh
        have Hx := Lib.hid hx'; clear hx hx'
        go_wp2_with fail
        refine hh.mono ?_; clear hh; rintro e w' ⟨rfl, rfl⟩
        go_wp2_with fail
        go_ret
        refine ⟨rfl, .inr ⟨k, rfl, ?_⟩⟩
        rw [allIn, List.all_eq_false]
        exact ⟨l[k], List.getElem_mem hkl, by rw [← Hzz.out, Hx.out]; decide⟩
    · obtain rfl : k = n := by omega
      go_wp2_with fail
      go_ret
      refine ⟨rfl, .inl ⟨rfl, ?_⟩⟩
      rw [allIn, List.all_eq_true]
      intro z hz
      obtain ⟨j, hj, rfl⟩ := List.mem_iff_getElem.1 hz
      exact Hz.out j hj (by rw [← Hl.out]; exact hj)
set_option maxRecDepth 20000 in
theorem contains_any (A : Option Addr) (n cp : Nat) (l : List Int) (r : Int) (b : Nat) (w : World) (h : Sl w 1 A n cp (icells l)) (hb : w.cell? ⟨b, 0, none⟩ = some (.int .i64 r)) (x : Bool) (hx : allIn l r = !x) :
    Calls Try.prog 32 #[.slice A n cp, .func (.func 29) #[] #[.pointer (some ⟨b, 0, none⟩)]] w fun e w' => e = .returned (.bool x) ∧ w' = w := by
  have hh := indexi_any A n cp l r b w h hb
  clear h hb
  have Hx := Lib.hid hx; clear hx
  go_enter Try.func32, Try.ntmps32
  go_wp2_with fail
  refine hh.mono ?_; clear hh; rintro e w' ⟨rfl, ⟨rfl, ha⟩ | ⟨d, rfl, ha⟩⟩
  · have := Hx.out
    rw [ha] at this
    obtain rfl : x = false := by exact bnot_t this
    clear ha this Hx
    go_wp2_with fail
    go_ret
    exact ⟨rfl, rfl⟩
  · have := Hx.out
    rw [ha] at this
    obtain rfl : x = true := by exact bnot_f this
    clear ha this Hx
    have hd : decide ((d : Int) ≥ 0) = true := by simp
    go_wp2_with fail
    go_ret
    exact ⟨rfl, rfl⟩

set_option maxRecDepth 20000 in
set_option maxHeartbeats 1600000 in
theorem pick2_any (bm br : Nat) (r c : Int) (P : Option Addr) (N p : Nat) (l : List UInt8) (A : Option Addr) (n cp : Nat) (rows : List Int) (i j : Nat) (hi : i < n) (w : World) (s1 : Sl w 1 P N p (cells l)) (s2 : Sl w 1 A n cp (icells rows))
    (hm : w.heap[bm]? = some (boxM r c P N p)) (hr : w.heap[br]? = some (.cells #[.slice A n cp] 25 (0, 0))) :
    Calls Try.prog 34 #[.int .i64 (i : Int), .int .i64 (j : Int), .pointer (some ⟨bm, 0, none⟩), .pointer (some ⟨br, 0, none⟩)] w
      fun e w' => e = .returned (.int .u8 ((atR r c N l (rows.getD i 0) (j : Int)).toNat : Int)) ∧ Below w.heap.size w w' := by
  have hl := s2.len
  rw [icells_length, Nat.mul_one] at hl
  have hn := s2.lim
  unfold maxLen at hn
  have hir : i < rows.length := by omega
  obtain ⟨b1, o1, rfl, hc⟩ := s2.at_ hi
  have hcell := hc i _ (icells_get rows i hir)
  have hz : rows.getD i 0 = rows[i] := by simp [hir]
  rw [← hz] at hcell
  obtain ⟨z, hzz⟩ : ∃ z, z = rows.getD i 0 := ⟨_, rfl⟩
  rw [← hzz] at hcell ⊢
  clear hzz hz hc hir hl
  have S1 := Lib.hid s1; clear s1
  have HC := Lib.hid hcell; clear hcell
  have HM := Lib.hid hm; clear hm
  have HR := Lib.hid hr; clear hr s2
  go_enter Try.func34, Try.ntmps34
  go_wp2_with fail
  refine wp_region_held_drew (S := fun w' => Fr (fun _ => False) w w') (by kernel_rfl) (Fr.drew (Fr.refl _ _)) (fun hHeld => ?_)
  clear hHeld
  have hHeld : Fr (fun _ => False) w w.drew := Fr.drew (Fr.refl _ _)
  have hz_0 : w.heap.size ≤ w.drew.heap.size := Nat.le_refl _
  obtain ⟨v_1, hw⟩ : ∃ v_1, v_1 = w.drew := ⟨_, rfl⟩
  rw [← hw] at hHeld hz_0  ⊢
  clear hw
  refine wpAnyH_take (i := 0) (oi := ⟨some 7, _, _, _, _, _⟩) (v := ?vg0_2) rfl (by kernel_rfl) (by kernel_rfl) (by kernel_rfl) (fun _ _ _ h => h) (Or.inl ⟨by rfl, ?yg0_2⟩) hHeld ?rg0_2
  case yg0_2 =>
    intro wq hSw
    (try dsimp only at hSw)
    have hx := hSw.row_some HM.out (fun h => h)
    have q0 := boxM_0 hx; have q1 := boxM_1 hx; have q2 := boxM_2 hx
    clear hx
    first | (go_simp; done) | (go_simp; with_reducible rfl)
  try simp only [Act.put, List.setIfInBounds_toArray, List.set_cons_zero, List.set_cons_succ]
  refine wpAnyH_take (i := 1) (oi := ⟨some 8, _, _, _, _, _⟩) (v := ?vg1_3) rfl (by kernel_rfl) (by kernel_rfl) (by kernel_rfl) (fun _ _ _ h => h) (Or.inl ⟨by rfl, ?yg1_3⟩) hHeld ?rg1_3
  case yg1_3 =>
    intro wq hSw
    (try dsimp only at hSw)
    have q0 := cell_of_one (hSw.row_some HR.out (fun h => h))
    first | (go_simp; done) | (go_simp; with_reducible rfl)
  try simp only [Act.put, List.setIfInBounds_toArray, List.set_cons_zero, List.set_cons_succ]
  refine wpAnyH_take (i := 2) (oi := ⟨some 9, _, _, _, _, _⟩) (v := ?vg2_4) rfl (by kernel_rfl) (by kernel_rfl) (by kernel_rfl) (fun _ _ _ h => h) (Or.inl ⟨by rfl, ?yg2_4⟩) hHeld ?rg2_4
  case yg2_4 =>
    intro wq hSw
    (try dsimp only at hSw)
    first | (go_simp; done) | (go_simp; with_reducible rfl)
  try simp only [Act.put, List.setIfInBounds_toArray, List.set_cons_zero, List.set_cons_succ]
  refine wpAnyH_take (i := 3) (oi := ⟨some 10, _, _, _, _, _⟩) (v := ?vg3_5) rfl (by kernel_rfl) (by kernel_rfl) (by kernel_rfl) (fun _ _ _ h => h) (Or.inl ⟨by rfl, ?yg3_5⟩) hHeld ?rg3_5
  case yg3_5 =>
    intro wq hSw
    (try dsimp only at hSw)
    have hi0 : (0 : Int) ≤ (i : Int) := by omega
    have hi1 : (i : Int) < (n : Int) := by omega
    first | (go_simp; done) | (go_simp; with_reducible rfl)
  try simp only [Act.put, List.setIfInBounds_toArray, List.set_cons_zero, List.set_cons_succ]
  refine wpAnyH_take (i := 4) (oi := ⟨some 11, _, _, _, _, _⟩) (v := ?vg4_6) rfl (by kernel_rfl) (by kernel_rfl) (by kernel_rfl) (fun _ _ _ h => h) (Or.inl ⟨by rfl, ?yg4_6⟩) hHeld ?rg4_6
  case yg4_6 =>
    intro wq hSw
    (try dsimp only at hSw)
    have q0 := hSw.cell_some HC.out (fun h => h)
    first | (go_simp; done) | (go_simp; with_reducible rfl)
  try simp only [Act.put, List.setIfInBounds_toArray, List.set_cons_zero, List.set_cons_succ]
  refine wpAnyH_take (i := 5) (oi := ⟨some 12, _, _, _, _, _⟩) (v := ?vg5_7) rfl (by kernel_rfl) (by kernel_rfl) (by kernel_rfl) (fun _ _ _ h => h) (Or.inl ⟨by rfl, ?yg5_7⟩) hHeld ?rg5_7
  case yg5_7 =>
    intro wq hSw
    (try dsimp only at hSw)
    first | (go_simp; done) | (go_simp; with_reducible rfl)
  try simp only [Act.put, List.setIfInBounds_toArray, List.set_cons_zero, List.set_cons_succ]
  refine wpAnyH_ready (rs := [6]) (by kernel_rfl) (by simp) ?_
  refine AllReadyH.cons (o := ⟨some 13, _, _, _, _, _⟩) rfl (fun K hK => ?_) (AllReadyH.nil)
  go_simp
  have hh := mat_any r c P N p l z (j : Int) v_1 (S1.out.fr hHeld (fun _ _ _ _ h => h))
  refine hh.mono ?_; clear hh; rintro e v_8 ⟨rfl, hbN⟩
  have hfN : Fr (fun _ => False) v_1 v_8 := Fr.of_below hbN
  clear hbN
  go_wp2_with fail
  have hHeld := hHeld.trans hfN
  have hz_9 := hfN.size
  refine hK.out _ _ hHeld (fun _ => ?_)
  clear hK K hfN
  try simp only [Act.put, List.setIfInBounds_toArray, List.set_cons_zero, List.set_cons_succ]
  refine wpAnyH_take (i := 7) (oi := ⟨some 6, _, _, _, _, _⟩) (v := ?vg7_10) rfl (by kernel_rfl) (by kernel_rfl) (by kernel_rfl) (fun _ _ _ h => h) (Or.inl ⟨by rfl, ?yg7_10⟩) hHeld ?rg7_10
  case yg7_10 =>
    intro wq hSw
    (try dsimp only at hSw)
    first | (go_simp; done) | (go_simp; with_reducible rfl)
  try simp only [Act.put, List.setIfInBounds_toArray, List.set_cons_zero, List.set_cons_succ]
  refine wpAnyH_done (by kernel_rfl) ?_ _
  go_wp2_with fail
  go_ret
  exact ⟨rfl, hHeld.belowAll (fun _ h => h.elim)⟩

/-- The world of Pick behind its boxes. -/
def pickW (w : World) (bx : Obj) (x : Value) : World := ((w.alloc bx).alloc (.cells #[x] 25)).alloc (.cells #[.int .i64 0, .int .i64 0, .slice none 0 0] 24)
section
variable (w : World) (bx : Obj) (x : Value)
theorem pickW_size : (pickW w bx x).heap.size = w.heap.size + 3 := by simp [pickW]
theorem pickW_below : Below w.heap.size w (pickW w bx x) := (((Below.refl _ _).alloc (Nat.le_refl _) _).alloc (by simp) _).alloc (by simp; omega) _
theorem pickW_0 : (pickW w bx x).heap[w.heap.size]? = some bx := (Below.heap_alloc _ _ _ (by simp; omega)).trans (alloc2_old w _ _)
theorem pickW_1 : (pickW w bx x).heap[w.heap.size + 1]? = some (.cells #[x] 25 (0, 0)) := (Below.heap_alloc _ _ _ (by simp)).trans (alloc2_new w _ _)
theorem pickW_2 : (pickW w bx x).heap[w.heap.size + 2]? = some box0 := by
  have := alloc2_new (w.alloc bx) (.cells #[x] 25) box0
  rwa [show (w.alloc bx).heap.size + 1 = w.heap.size + 2 from by simp] at this
end
structure PickAt (w0 w : World) (bx : Obj) (x : Value) : Prop where
  below : Below w0.heap.size w0 w
  size : w0.heap.size + 3 ≤ w.heap.size
  b0 : w.heap[w0.heap.size]? = some bx
  b1 : w.heap[w0.heap.size + 1]? = some (.cells #[x] 25 (0, 0))
  b2 : w.heap[w0.heap.size + 2]? = some box0
theorem PickAt.start {w w1 : World} {bx : Obj} {x : Value} (h : Below (pickW w bx x).heap.size (pickW w bx x) w1) : PickAt w w1 bx x :=
  ⟨(pickW_below w bx x).trans (h.mono (by rw [pickW_size]; omega)), by have := h.size; rw [pickW_size] at this; exact this, (h.block _ (block_lt (pickW_0 w bx x))).trans (pickW_0 w bx x), (h.block _ (block_lt (pickW_1 w bx x))).trans (pickW_1 w bx x), (h.block _ (block_lt (pickW_2 w bx x))).trans (pickW_2 w bx x)⟩
theorem PickAt.later {w0 w w' : World} {bx : Obj} {x : Value} (h : PickAt w0 w bx x) (hb : Below w.heap.size w w') : PickAt w0 w' bx x :=
  ⟨h.below.trans (hb.mono h.below.size), Nat.le_trans h.size hb.size, (hb.block _ (block_lt h.b0)).trans h.b0, (hb.block _ (block_lt h.b1)).trans h.b1, (hb.block _ (block_lt h.b2)).trans h.b2⟩
theorem PickAt.no {w0 w : World} {bx : Obj} {x : Value} (h : PickAt w0 w bx x) (r c : Int) (A : Option Addr) (n cp : Nat) :
    Below w0.heap.size w0 (((w.setCell ⟨w0.heap.size + 2, 0, none⟩ (.int .i64 r)).setCell ⟨w0.heap.size + 2, 1, none⟩ (.int .i64 c)).setCell ⟨w0.heap.size + 2, 2, none⟩ (.slice A n cp)) :=
  h.below.trans ((box0_fr w (w0.heap.size + 2) r c A n cp).below h.below.size (fun k hk => by have hk : k = _ := hk; omega))

set_option maxRecDepth 20000 in
set_option maxHeartbeats 1600000 in
theorem pick_no (r c : Int) (P : Option Addr) (N p : Nat) (A : Option Addr) (n cp : Nat) (rows : List Int) (w : World) (hN : N ≤ maxLen) (s2 : Sl w 1 A n cp (icells rows))
    (hno : ¬ (rightB r c N = true ∧ fitsB n = true ∧ allIn rows r = true)) :
    Calls Try.prog 11 #[.agg #[.int .i64 r, .int .i64 c, .slice P N p], .slice A n cp] w fun e w' => e = .returned (NoMx 2) ∧ Below w.heap.size w w' := by
  have hhR := right_any r c P N p hN (pickW w (boxM r c P N p) (.slice A n cp))
  have S2 := Lib.hid s2; clear s2
  by_cases h1 : rightB r c N = true
  · by_cases h2 : fitsB n = true
    · have h3 : allIn rows r = !true := by
        cases h3 : allIn rows r
        · rfl
        · exact absurd ⟨h1, h2, h3⟩ hno
      have g2 := of_decide_eq_true h2
      rw [h1] at hhR
      have H3 := Lib.hid h3; clear h3 h1 h2 hno
      go_enter Try.func11, Try.ntmps11
      go_wp2_with fail
      refine hhR.mono ?_; clear hhR; rintro e w1 ⟨rfl, hb1⟩
      have I1 := Lib.hid (PickAt.start hb1); clear hb1
      have a1 := cell_of_one I1.out.b1
      go_wp2_with fail
      refine (fits_yes (n : Int) g2.1 g2.2 _).mono ?_; rintro e w2 ⟨rfl, rfl⟩
      go_wp2_with fail
      have hh := contains_any A n cp rows r w.heap.size _ (S2.out.below I1.out.below (Nat.le_refl _)) (boxM_0 I1.out.b0) true H3.out
      refine hh.mono ?_; clear hh; rintro e w2 ⟨rfl, rfl⟩
      clear a1
      have x0 := box0_0 I1.out.b2; have x1 := box0_1 I1.out.b2; have x2 := box0_2 I1.out.b2
      have y0 := box0_free I1.out.b2 0; have y1 := box0_free I1.out.b2 1; have y2 := box0_free I1.out.b2 2
      go_wp2_with fail
      refine bodyPost_ret (results_cell_pair Try.results11 _ _ (w.heap.size + 2) 24 _ (0, 0) _ rfl (box0_set I1.out.b2) Try.underlying24 rfl size_matrix) rfl ?_
      exact ⟨rfl, I1.out.no 0 0 none 0 0⟩
    · have g2 : ¬ (1 ≤ (n : Int) ∧ (n : Int) ≤ 255) := fun hh => h2 (decide_eq_true hh)
      rw [h1] at hhR
      clear h1 h2 hno
      go_enter Try.func11, Try.ntmps11
      go_wp2_with fail
      refine hhR.mono ?_; clear hhR; rintro e w1 ⟨rfl, hb1⟩
      have I1 := Lib.hid (PickAt.start hb1); clear hb1
      have a1 := cell_of_one I1.out.b1
      go_wp2_with fail
      refine (fits_no (n : Int) (by omega) _).mono ?_; rintro e w2 ⟨rfl, rfl⟩
      clear a1
      have x0 := box0_0 I1.out.b2; have x1 := box0_1 I1.out.b2; have x2 := box0_2 I1.out.b2
      have y0 := box0_free I1.out.b2 0; have y1 := box0_free I1.out.b2 1; have y2 := box0_free I1.out.b2 2
      go_wp2_with fail
      refine bodyPost_ret (results_cell_pair Try.results11 _ _ (w.heap.size + 2) 24 _ (0, 0) _ rfl (box0_set I1.out.b2) Try.underlying24 rfl size_matrix) rfl ?_
      exact ⟨rfl, I1.out.no 0 0 none 0 0⟩
  · rw [show rightB r c N = false by simpa using h1] at hhR
    clear h1 hno
    go_enter Try.func11, Try.ntmps11
    go_wp2_with fail
    refine hhR.mono ?_; clear hhR; rintro e w1 ⟨rfl, hb1⟩
    have I1 := Lib.hid (PickAt.start hb1); clear hb1
    have x0 := box0_0 I1.out.b2; have x1 := box0_1 I1.out.b2; have x2 := box0_2 I1.out.b2
    have y0 := box0_free I1.out.b2 0; have y1 := box0_free I1.out.b2 1; have y2 := box0_free I1.out.b2 2
    go_wp2_with fail
    refine bodyPost_ret (results_cell_pair Try.results11 _ _ (w.heap.size + 2) 24 _ (0, 0) _ rfl (box0_set I1.out.b2) Try.underlying24 rfl size_matrix) rfl ?_
    exact ⟨rfl, I1.out.no 0 0 none 0 0⟩

theorem enters_pick2 : ∀ args w, (callFunc 34 args).run Try.prog w = .ok (.enter 34 args) w := enters_of Try.func34 (by kernel_rfl) rfl
/-- The rows of a matrix that a list names. -/
def pickM (R C N : Nat) (l : List UInt8) (rows : List Int) : Mx := fun i j => atR (R : Int) (C : Int) N l (rows.getD i 0) (j : Int)
set_option maxRecDepth 20000 in
set_option maxHeartbeats 1600000 in
theorem pick_yes (R C : Nat) (P : Option Addr) (N p : Nat) (l : List UInt8) (A : Option Addr) (n cp : Nat) (rows : List Int) (w : World) (s1 : Sl w 1 P N p (cells l)) (s2 : Sl w 1 A n cp (icells rows))
    (h1 : rightB (R : Int) (C : Int) N = true) (hC : C ≤ 255) (h2 : 1 ≤ n ∧ n ≤ 255) (h3 : allIn rows (R : Int) = true) :
    Calls Try.prog 11 #[.agg #[.int .i64 (R : Int), .int .i64 (C : Int), .slice P N p], .slice A n cp] w fun e w' => RetOk n C (tabL n C (pickM R C N l rows)) w e w' ∧ Below w.heap.size w w' := by
  have hhR := right_any (R : Int) (C : Int) P N p s1.lim (pickW w (boxM (R : Int) (C : Int) P N p) (.slice A n cp))
  rw [h1] at hhR
  have S1 := Lib.hid s1; clear s1
  have S2 := Lib.hid s2; clear s2
  have H3 := Lib.hid (show allIn rows (R : Int) = !false from h3); clear h3
  clear h1
  go_enter Try.func11, Try.ntmps11
  go_wp2_with fail
  refine hhR.mono ?_; clear hhR; rintro e w1 ⟨rfl, hb1⟩
  have I1 := Lib.hid (PickAt.start hb1); clear hb1
  have a1 := cell_of_one I1.out.b1
  go_wp2_with fail
  refine (fits_yes (n : Int) (by omega) (by omega) _).mono ?_; rintro e w2 ⟨rfl, rfl⟩
  go_wp2_with fail
  have hh := contains_any A n cp rows (R : Int) w.heap.size _ (S2.out.below I1.out.below (Nat.le_refl _)) (boxM_0 I1.out.b0) false H3.out
  refine hh.mono ?_; clear hh; rintro e w2 ⟨rfl, rfl⟩
  have c1 := boxM_1 I1.out.b0
  have hht : Tells 34 #[.pointer (some ⟨w.heap.size, 0, none⟩), .pointer (some ⟨w.heap.size + 1, 0, none⟩)] n C (pickM R C N l rows) w2 := fun W i j hi hj hb =>
    pick2_any w.heap.size (w.heap.size + 1) (R : Int) (C : Int) P N p l A n cp rows i j hi W ((S1.out.below I1.out.below (Nat.le_refl _)).below hb (Nat.le_refl _)) ((S2.out.below I1.out.below (Nat.le_refl _)).below hb (Nat.le_refl _)) ((hb.block _ (block_lt I1.out.b0)).trans I1.out.b0) ((hb.block _ (block_lt I1.out.b1)).trans I1.out.b1)
  have hhB := build_any n C h2.2 hC _ enters_pick2 _ _ _ hht
  clear hht
  go_wp2_with fail
  refine hhB.mono ?_; clear hhB; rintro e w6 ⟨v, rfl, ⟨A6, c6, rfl, hg6⟩, hb6⟩
  have hs3 := I1.out.size
  have I6 := Lib.hid (I1.out.later hb6)
  have HG6 := Lib.hid hg6; clear hg6 a1 c1
  have x0 := box0_0 I6.out.b2; have x1 := box0_1 I6.out.b2; have x2 := box0_2 I6.out.b2
  have y0 := box0_free I6.out.b2 0; have y1 := box0_free I6.out.b2 1; have y2 := box0_free I6.out.b2 2
  go_wp2_with fail
  refine bodyPost_ret (results_cell_pair Try.results11 _ _ (w.heap.size + 2) 24 _ (0, 0) _ rfl (box0_set I6.out.b2) Try.underlying24 rfl size_matrix) rfl ?_
  have hq := box0_fr w6 (w.heap.size + 2) (n : Int) (C : Int) A6 (n * C) c6
  exact ⟨⟨A6, c6, rfl, (HG6.out.frG hq (by omega)).lower (by omega)⟩, I6.out.no (n : Int) (C : Int) A6 (n * C) c6⟩
end Go.Proofs.Ytccnoflgbopjlaa
