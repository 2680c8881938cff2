/-
  The document's array (layer 10): contracts of New, Row, Crash and PutRow. Condition: bounds; what is handed in lies outside the array's blocks. (Written by gen_dtp.py.)
-/
import Derived.Test.YtjjoeaneaibklaaDtn
import Derived.Deep.RegionHeld3
import Derived.Deep.DeepCutAuto
namespace Go.Proofs.Ytjjoeaneaibklaa
open Go.RowKit Go.Proofs
set_option linter.unusedVariables false

theorem info_px : (Try.prog.info? 64).map (fun i => (i.zero, i.size, i.bytes)) = some (some (.pointer none), 1, 8) := by kernel_rfl
theorem step_eqi10 {ρ : Operand → Value} {o : Oper} {x y : Operand} {w : World} {a b : Int} {t u : TypeId} {r : Bool} (ho : o.op = .binOp .eql t x y u) (hx : ρ x = .int .i64 a) (hy : ρ y = .int .i64 b) (hr : decide (a = b) = r) : (execOp ρ o).run Try.prog w = .ok (.value (.bool r)) w := by
  subst hr
  have e : (a == b) = decide (a = b) := by
    by_cases h : a = b
    · subst h; simp
    · simp [h]
  unfold execOp
  simp [ho, hx, hy, go_sem, e]
section
variable {w w' : World} {S : Nat → Prop} {A c i k : Nat} {AL : Option Addr} {ds : List Ds} {d : Ds} {xs : List Dv}
/-- An array of the document's that is being made. -/
structure NewX (w : World) (X m t : Nat) (AL : Option Addr) (cL : Nat) (ds : List Ds) (T : Nat → Prop) (wr : World) : Prop where
  row : Rn wr AL 64 1 t cL (ds.map Ds.ptr)
  box : wr.heap[X]? = some (.cells #[.slice AL t cL] 68 (0, 0))
  dss : Dss (Rk10 0) wr T ds
  xs : ds.map Ds.x = List.replicate t (Dv.new m)
  far : ∀ b, T b → w.heap.size ≤ b ∧ b ≠ X ∧ ¬ Bk AL b
  nX : ¬ Bk AL X
  loX : w.heap.size ≤ X
  loA : ∀ b, Bk AL b → w.heap.size ≤ b
  bel : Below w.heap.size w wr
theorem NewX.len {X m t cL : Nat} {T : Nat → Prop} {wr : World} (h : NewX w X m t AL cL ds T wr) : ds.length = t := by
  have := congrArg List.length h.xs
  simpa using this
theorem NewX.c0 {X m t cL : Nat} {T : Nat → Prop} {wr w2 : World} (h : NewX w X m t AL cL ds T wr) (hb : Below wr.heap.size wr w2) : w2.cell? ⟨X, 0, none⟩ = some (.slice AL t cL) := by
  rw [cell_of_row _ _ _ _ _ _ ((Fr.of_below hb : Fr (fun _ => False) _ _).row_some h.box (fun h => h))]
  rfl
theorem NewX.step {X m t cL D c7 : Nat} {T S' : Nat → Prop} {A7 : Option Addr} {wr w2 w3 w7 : World} (h : NewX w X m t AL cL ds T wr) (hb : Below wr.heap.size wr w2) (hr : Rk10 0 w2 S' D (Dv.new m)) (hs : ∀ b, S' b → wr.heap.size ≤ b) (hb3 : Below w2.heap.size w2 w3)
    (hrn : Rn w7 A7 64 1 (t + 1) c7 (ds.map Ds.ptr ++ [.pointer (some ⟨D, 0, none⟩)])) (hf : Fr (Bk AL) w3 w7) (ho : A7 = AL ∨ A7 = some ⟨w3.heap.size, 0, none⟩) :
    NewX w X m (t + 1) A7 c7 (ds ++ [⟨D, S', Dv.new m⟩]) (fun b => T b ∨ S' b) (w7.setCell ⟨X, 0, none⟩ (.slice A7 (t + 1) c7)) := by
  have hX := block_lt h.box
  have hz := hb.size
  have hz3 := hb3.size
  have hz0 := h.bel.size
  have hb23 : Below wr.heap.size wr w3 := hb.trans (hb3.mono hz)
  have hbox3 := (Fr.of_below hb23 : Fr (fun _ => False) _ _).row_some h.box (fun h => h)
  have hbox7 := hf.row_some hbox3 h.nX
  have hS2 : ∀ b, S' b → b < w2.heap.size := fun b hb => (layX 0).old hr b hb
  have hTS : ∀ b, T b ∨ S' b → w.heap.size ≤ b ∧ b ≠ X ∧ ¬ Bk A7 b := fun b hb' => by
    have hlt : b < w3.heap.size := by
      rcases hb' with q | q
      · have := h.dss.old b q; omega
      · have := hS2 b q; omega
    have hno : ¬ Bk AL b := by
      rcases hb' with q | q
      · exact (h.far b q).2.2
      · exact fun p => by have := hs b q; have := h.row.lt p; omega
    refine ⟨?_, ?_, fun p => ?_⟩
    · rcases hb' with q | q
      · exact (h.far b q).1
      · have := hs b q; omega
    · rcases hb' with q | q
      · exact (h.far b q).2.1
      · have := hs b q; omega
    · rcases ho with rfl | rfl
      · exact hno p
      · obtain ⟨o, p⟩ := p
        injection p with p
        injection p with p _
        omega
  have hset : Fr (fun b => b = X) w7 (w7.setCell ⟨X, 0, none⟩ (.slice A7 (t + 1) c7)) := (Fr.refl (fun b => b = X) _).setCell (p := ⟨X, 0, none⟩) (.inr rfl) _
  have hnX7 : ¬ Bk A7 X := by
    rcases ho with rfl | rfl
    · exact h.nX
    · intro p
      obtain ⟨o, p⟩ := p
      injection p with p
      injection p with p _
      omega
  have hd3 := (h.dss.push (layX 0) hb hr hs).fr (layX 0) (Fr.of_below hb3 : Fr (fun _ => False) _ _) (fun _ _ h => h)
  have hbk : ∀ b, T b ∨ S' b → ¬ Bk AL b := fun b q p => by
    rcases q with q | q
    · exact (h.far b q).2.2 p
    · have := hs b q; have := h.row.lt p; omega
  have hd7 := (hd3.fr (layX 0) hf hbk).fr (layX 0) hset (fun b q => (hTS b q).2.1)
  have hbel : Below w.heap.size w w7 := (h.bel.trans (hb23.mono hz0)).trans (hf.below (by omega) h.loA)
  refine ⟨?_, ?_, hd7, ?_, hTS, hnX7, h.loX, fun b hb' => ?_, hbel.trans (hset.below (by have := hf.size; omega) (fun b q => by rw [q]; exact h.loX))⟩
  · have e : (ds ++ [(⟨D, S', Dv.new m⟩ : Ds)]).map Ds.ptr = ds.map Ds.ptr ++ [.pointer (some ⟨D, 0, none⟩)] := by rw [List.map_append]; rfl
    rw [e]
    exact hrn.fr hset (fun b hb' q => hnX7 (by rw [← q]; exact hb'))
  · exact heap_setCell_same w7 X 0 _ _ (.slice A7 (t + 1) c7) hbox7
  · rw [List.map_append, h.xs, List.replicate_succ']; rfl
  · rcases ho with rfl | rfl
    · exact h.loA b hb'
    · obtain ⟨o, hb'⟩ := hb'
      injection hb' with hb'
      injection hb' with hb' _
      omega
theorem NewX.arr {X m t cL : Nat} {T : Nat → Prop} {wr : World} (h : NewX w X m t AL cL ds T wr) : ∃ S, RX 0 wr S X (List.replicate t (Dv.new m)) ∧ ∀ b, S b → w.heap.size ≤ b := by
  have hl := h.len
  have hrow := h.row
  have hb := h.box
  rw [← hl] at hb hrow
  have key := h.dss.ars (A := X) (c := cL) (AL := AL) hrow hb (fun b hb q => (h.far b q).2.2 hb) (fun q => (h.far X q).2.1 rfl)
  refine ⟨_, ⟨_, _, ds, key, h.xs⟩, fun b hb => ?_⟩
  rcases hb with hb | hb | hb
  · exact (h.far b hb).1
  · exact h.loA b hb
  · rw [hb]; exact h.loX
def RetNewX (xs : List Dv) (w : World) (e : Ending) (w' : World) : Prop := ∃ A S, e = .returned (.pointer (some ⟨A, 0, none⟩)) ∧ RX 0 w' S A xs ∧ Below w.heap.size w w' ∧ ∀ b, S b → w.heap.size ≤ b
set_option maxRecDepth 100000
set_option maxHeartbeats 3200000
theorem rfnew_no (z : Int) (w : World) (h : ¬ (1 ≤ z ∧ z ≤ 600)) : Calls Try.prog 33 #[.int .i64 z] w fun e w' => e = .returned (.pointer none) ∧ w' = w := by
  by_cases q1 : z < 1
  · clear h
    go_enter Try.func33, Try.ntmps33
    go_wp2_with fail
    go_ret
    exact ⟨rfl, rfl⟩
  · have q2 : 600 < z := by omega
    clear h
    go_enter Try.func33, Try.ntmps33
    go_wp2_with fail
    go_ret
    exact ⟨rfl, rfl⟩
theorem rxnew_no (n m : Int) (w : World) (h : ¬ (1 ≤ n ∧ n ≤ 255 ∧ 1 ≤ m ∧ m ≤ 600)) : Calls Try.prog 9 #[.int .i64 n, .int .i64 m] w fun e w' => e = .returned (.pointer none) ∧ Below w.heap.size w w' := by
  by_cases q1 : n < 1
  · clear h
    go_enter Try.func9, Try.ntmps9
    go_wp2_with fail
    go_ret
    exact ⟨rfl, Below.refl _ _⟩
  · by_cases q2 : 255 < n
    · clear h
      go_enter Try.func9, Try.ntmps9
      go_wp2_with fail
      go_ret
      exact ⟨rfl, Below.refl _ _⟩
    · have hC := rfnew_no m w (by omega)
      clear h
      go_enter Try.func9, Try.ntmps9
      go_wp2_with fail
      refine hC.mono ?_; clear hC; rintro e w2 ⟨rfl, hw2⟩
      obtain rfl : w = w2 := hw2.symm
      go_wp2_with fail
      go_ret
      exact ⟨rfl, Below.refl _ _⟩
theorem rxnew_yes (n m : Nat) (w : World) (h1 : 1 ≤ n) (h2 : n ≤ 255) (h3 : 1 ≤ m) (h4 : m ≤ 600) : Calls Try.prog 9 #[.int .i64 (n : Int), .int .i64 (m : Int)] w (RetNewX (List.replicate n (Dv.new m)) w) := by
  have q1 : ¬ (n : Int) < 1 := by omega
  have q2 : ¬ (255 : Int) < (n : Int) := by omega
  obtain ⟨i0, hi0, hz0, hz1, hz2⟩ := info_parts info_px
  have Hi := Lib.hid hi0
  have Hz0 := Lib.hid hz0
  have Hz1 := Lib.hid hz1
  have Hz2 := Lib.hid hz2
  clear hi0 hz0 hz1 hz2
  go_enter Try.func9, Try.ntmps9
  go_wp2_with fail
  refine (rfnew_yes m w h3 h4).mono ?_; rintro e w1 ⟨D, S0, rfl, _, hb, _⟩
  have HB := Lib.hid hb
  clear hb
  go_wp2_with fail
  clear q1 q2
  go_loopw [6] (fun i wr => ∃ (t : Nat) (AL : Option Addr) (cL : Nat) (ds : List Ds) (T : Nat → Prop), t ≤ n ∧ i = .int .i64 (t : Int) ∧ NewX w w1.heap.size m t AL cL ds T wr) (fun i _ => n - (intOf i).toNat)
  case atStart =>
    have hb2 := (Below.refl w1.heap.size w1).alloc (Nat.le_refl _) (.cells #[.slice none 0 0] 68)
    have hwz := HB.out.size
    exact ⟨0, none, 0, [], fun _ => False, by omega, rfl, .inl ⟨rfl, rfl, rfl, rfl⟩, heap_alloc_new w1 _, ⟨fun i d h => by simp at h, fun i j d e h => by simp at h, fun b h => h.elim⟩, rfl, (fun b h => h.elim), (fun ⟨o, h⟩ => by cases h), by omega, (fun b ⟨o, h⟩ => by cases h), HB.out.trans (hb2.mono hwz)⟩
  case round =>
    obtain ⟨t, AL, cL, ds, T, ht, rfl, hP⟩ := hrel
    by_cases hlt : t < n
    · have hti : (t : Int) < (n : Int) := by omega
      have HP := Lib.hid hP
      have NX := Lib.hid hP.nX
      have HLX := Lib.hid (block_lt hP.box)
      clear hP
      go_wp2_with fail
      have BL0 := Lib.hid (show Below wr.heap.size wr wr.drew from Below.drew (Below.refl _ _))
      refine wp_region_held_drew (S := fun w' => Fr (fun b => b = w1.heap.size ∨ Bk AL b ∨ wr.heap.size ≤ b) wr w') (by kernel_rfl) (Fr.drew (Fr.refl _ _)) (fun hHeld => ?_)
      clear hHeld
      have hHeld : Fr (fun b => b = w1.heap.size ∨ Bk AL b ∨ wr.heap.size ≤ b) wr wr.drew := Fr.drew (Fr.refl _ _)
      have hz_0 : wr.heap.size ≤ wr.drew.heap.size := Nat.le_refl _
      obtain ⟨v_1, hw⟩ : ∃ v_1, v_1 = wr.drew := ⟨_, rfl⟩
      rw [← hw] at hHeld hz_0 BL0 ⊢
      clear hw
      refine wpAnyH_take (i := 0) (oi := ⟨some 25, _, _, _, _, _⟩) (v := ?vg0_2) rfl (by kernel_rfl) (by kernel_rfl) (by kernel_rfl) (fun _ _ _ h => h) (Or.inl ⟨by rfl, ?yg0_2⟩) hHeld ?rg0_2
      case yg0_2 =>
        intro wq hSw
        (try dsimp only at hSw)
        first | (go_simp; done) | (go_simp; with_reducible rfl)
      try simp only [Act.put, List.setIfInBounds_toArray, List.set_cons_zero, List.set_cons_succ]
      refine wpAnyH_take (i := 1) (oi := ⟨some 26, _, _, _, _, _⟩) (v := ?vg1_3) rfl (by kernel_rfl) (by kernel_rfl) (by kernel_rfl) (fun _ _ _ h => h) (Or.inl ⟨by rfl, ?yg1_3⟩) hHeld ?rg1_3
      case yg1_3 =>
        intro wq hSw
        (try dsimp only at hSw)
        first | (go_simp; done) | (go_simp; with_reducible rfl)
      try simp only [Act.put, List.setIfInBounds_toArray, List.set_cons_zero, List.set_cons_succ]
      refine wpAnyH_take (i := 2) (oi := ⟨some 27, _, _, _, _, _⟩) (v := ?vg2_4) rfl (by kernel_rfl) (by kernel_rfl) (by kernel_rfl) (fun _ _ _ h => h) (Or.inl ⟨by rfl, ?yg2_4⟩) hHeld ?rg2_4
      case yg2_4 =>
        intro wq hSw
        (try dsimp only at hSw)
        first | (go_simp; done) | (go_simp; with_reducible rfl)
      try simp only [Act.put, List.setIfInBounds_toArray, List.set_cons_zero, List.set_cons_succ]
      refine wpAnyH_take (i := 3) (oi := ⟨some 28, _, _, _, _, _⟩) (v := ?vg3_5) rfl (by kernel_rfl) (by kernel_rfl) (by kernel_rfl) (fun _ _ _ h => h) (Or.inl ⟨by rfl, ?yg3_5⟩) hHeld ?rg3_5
      case yg3_5 =>
        intro wq hSw
        (try dsimp only at hSw)
        first | (go_simp; done) | (go_simp; with_reducible rfl)
      try simp only [Act.put, List.setIfInBounds_toArray, List.set_cons_zero, List.set_cons_succ]
      refine wpAnyH_take (i := 5) (oi := ⟨some 30, _, _, _, _, _⟩) (v := ?vg5_6) rfl (by kernel_rfl) (by kernel_rfl) (by kernel_rfl) (fun _ _ _ h => h) (Or.inl ⟨by rfl, ?yg5_6⟩) hHeld ?rg5_6
      case yg5_6 =>
        intro wq hSw
        (try dsimp only at hSw)
        first | (go_simp; done) | (go_simp; with_reducible rfl)
      try simp only [Act.put, List.setIfInBounds_toArray, List.set_cons_zero, List.set_cons_succ]
      refine wpAnyH_ready (rs := [4, 6]) (by kernel_rfl) (by simp) ?_
      refine AllReadyH.cons (o := ⟨some 29, _, _, _, _, _⟩) rfl (fun K hK => ?_) (AllReadyH.cons (o := ⟨some 31, _, _, _, _, _⟩) rfl (fun K hK => ?_) (AllReadyH.nil))
      · have hq := HP.out.c0 BL0.out
        go_simp
        refine hK.out _ _ hHeld (fun _ => ?_)
        clear hK K
        try simp only [Act.put, List.setIfInBounds_toArray, List.set_cons_zero, List.set_cons_succ]
        refine wpAnyH_ready (rs := [6]) (by kernel_rfl) (by simp) ?_
        refine AllReadyH.cons (o := ⟨some 31, _, _, _, _, _⟩) rfl (fun K hK => ?_) (AllReadyH.nil)
        go_simp
        refine (rfnew_yes m _ h3 h4).mono ?_; rintro e v_7 ⟨D2, S2, rfl, hr2, hb2, hs2⟩
        have hfN := Fr.of_below (S := fun b => b = w1.heap.size ∨ Bk AL b ∨ wr.heap.size ≤ b) hb2
        have HS2 := Lib.hid (show ∀ b, S2 b → wr.heap.size ≤ b from fun b hb => by have := hs2 b hb; have := BL0.out.size; omega)
        have HR2 := Lib.hid hr2
        have bl_8 := Lib.hid (BL0.out.trans (hb2.mono BL0.out.size))
        clear hr2 hb2 hs2
        go_wp2_with fail
        have hHeld := hHeld.trans hfN
        have hz_9 := hfN.size
        refine hK.out _ _ hHeld (fun _ => ?_)
        clear hK K hfN
        try simp only [Act.put, List.setIfInBounds_toArray, List.set_cons_zero, List.set_cons_succ]
        refine wpAnyH_ready (rs := [7]) (by kernel_rfl) (by simp) ?_
        refine AllReadyH.cons (o := ⟨some 32, _, _, _, _, _⟩) rfl (fun K hK => ?_) (AllReadyH.nil)
        go_simp
        have hb := (Below.refl v_7.heap.size v_7).alloc (Nat.le_refl _) (.cells #[.pointer (some ⟨D2, 0, none⟩)] 64)
        have hsl := Sl.made v_7 #[.pointer (some ⟨D2, 0, none⟩)] 64 1 1 rfl (by decide)
        obtain ⟨v_10, hw⟩ : ∃ v, v = v_7.alloc (.cells #[.pointer (some ⟨D2, 0, none⟩)] 64) := ⟨_, rfl⟩
        rw [← hw] at hb hsl ⊢
        clear hw
        have hfN := Fr.of_below (S := fun b => b = w1.heap.size ∨ Bk AL b ∨ wr.heap.size ≤ b) hb
        have sb_11 := Lib.hid hsl
        have bb_12 := Lib.hid hb
        have bl_13 := Lib.hid (bl_8.out.trans (hb.mono bl_8.out.size))
        clear hsl hb
        have hHeld := hHeld.trans hfN
        have hz_14 := hfN.size
        refine hK.out _ _ hHeld (fun _ => ?_)
        clear hK K hfN
        try simp only [Act.put, List.setIfInBounds_toArray, List.set_cons_zero, List.set_cons_succ]
        refine wpAnyH_ready (rs := [8]) (by kernel_rfl) (by simp) ?_
        refine AllReadyH.cons (o := ⟨some 33, _, _, _, _, _⟩) rfl (fun K hK => ?_) (AllReadyH.nil)
        refine wp_append_rn (o := ⟨some 33, _, _, _, _, _⟩) (.tmp 29) (.tmp 32) 66 66 rfl i0 (.pointer none) 8 Try.underlying66 Hi.out Hz0.out Hz1.out Hz2.out rfl (by decide) rfl (HP.out.row.later bl_13.out) (.slice (some ⟨v_7.heap.size, 0, none⟩) 1 1) 1 [.pointer (some ⟨D2, 0, none⟩)] rfl (sb_11.out.src Try.underlying66 (by decide) (fun u hu => by simp at hu; rw [hu]; rfl)) (by unfold maxLen; omega) (by omega) ?_
        intro A7 c7 w7 hrn hfb hor
        have hfN : Fr (fun b => b = w1.heap.size ∨ Bk AL b ∨ wr.heap.size ≤ b) v_10 w7 := hfb.mono (fun b hb => .inr (.inl hb))
        have hst := HP.out.step bl_8.out HR2.out HS2.out bb_12.out hrn hfb hor
        have HST := Lib.hid hst
        have hbx := hfb.row_some ((Fr.of_below bl_13.out : Fr (fun _ => False) _ _).row_some HP.out.box (fun h => h)) NX.out
        have HBX := Lib.hid hbx
        clear hrn hfb hor hst hbx
        have hHeld := hHeld.trans hfN
        have hz_15 := hfN.size
        refine hK.out _ _ hHeld (fun _ => ?_)
        clear hK K hfN
        try simp only [Act.put, List.setIfInBounds_toArray, List.set_cons_zero, List.set_cons_succ]
        refine wpAnyH_take (i := 9) (oi := ⟨some 34, _, _, _, _, _⟩) (v := ?vg9_16) rfl (by kernel_rfl) (by kernel_rfl) (by kernel_rfl) (fun _ _ _ h => h) (Or.inl ⟨by rfl, ?yg9_16⟩) hHeld ?rg9_16
        case yg9_16 =>
          intro wq hSw
          (try dsimp only at hSw)
          first | (go_simp; done) | (go_simp; with_reducible rfl)
        try simp only [Act.put, List.setIfInBounds_toArray, List.set_cons_zero, List.set_cons_succ]
        refine wpAnyH_take (i := 10) (oi := ⟨some 35, _, _, _, _, _⟩) (v := ?vg10_17) rfl (by kernel_rfl) (by kernel_rfl) (by kernel_rfl) (fun _ _ _ h => h) (Or.inl ⟨by rfl, ?yg10_17⟩) hHeld ?rg10_17
        case yg10_17 =>
          intro wq hSw
          (try dsimp only at hSw)
          first | (go_simp; done) | (go_simp; with_reducible rfl)
        try simp only [Act.put, List.setIfInBounds_toArray, List.set_cons_zero, List.set_cons_succ]
        refine wpAnyH_ready (rs := [11]) (by kernel_rfl) (by simp) ?_
        refine AllReadyH.cons (o := ⟨none, _, _, _, _, _⟩) rfl (fun K hK => ?_) (AllReadyH.nil)
        have q1 : w7.cell? ⟨w1.heap.size, 0, none⟩ = some (.slice AL t cL) := by rw [cell_of_row _ _ _ _ _ _ HBX.out]; rfl
        have u1 : w7.frozen? ⟨w1.heap.size, 0, none⟩ = false := frozen_of_row _ _ _ _ _ HBX.out
        go_simp
        clear q1 u1
        have hfN : Fr (fun b => b = w1.heap.size ∨ Bk AL b ∨ wr.heap.size ≤ b) w7 (w7.setCell ⟨w1.heap.size, 0, none⟩ (.slice A7 (t + 1) c7)) := (Fr.refl (fun b => b = w1.heap.size ∨ Bk AL b ∨ wr.heap.size ≤ b) _).setCell (p := ⟨w1.heap.size, 0, none⟩) (.inr (.inl rfl)) _
        obtain ⟨w8, hw⟩ : ∃ v, v = w7.setCell ⟨w1.heap.size, 0, none⟩ (.slice A7 (t + 1) c7) := ⟨_, rfl⟩
        rw [← hw] at hfN HST ⊢
        clear hw
        have hHeld := hHeld.trans hfN
        have hz_18 := hfN.size
        refine hK.out _ _ hHeld (fun _ => ?_)
        clear hK K hfN
        try simp only [Act.put]
        refine wpAnyH_done (by kernel_rfl) ?_ _
        clear hHeld
        go_wp2_with fail
        go_roundw
        case rel => exact ⟨t + 1, A7, c7, _, _, by omega, by go_num, HST.out⟩
        case measure => simp [intOf]; omega
      · go_simp
        refine (rfnew_yes m _ h3 h4).mono ?_; rintro e v_19 ⟨D2, S2, rfl, hr2, hb2, hs2⟩
        have hfN := Fr.of_below (S := fun b => b = w1.heap.size ∨ Bk AL b ∨ wr.heap.size ≤ b) hb2
        have HS2 := Lib.hid (show ∀ b, S2 b → wr.heap.size ≤ b from fun b hb => by have := hs2 b hb; have := BL0.out.size; omega)
        have HR2 := Lib.hid hr2
        have bl_20 := Lib.hid (BL0.out.trans (hb2.mono BL0.out.size))
        clear hr2 hb2 hs2
        go_wp2_with fail
        have hHeld := hHeld.trans hfN
        have hz_21 := hfN.size
        refine hK.out _ _ hHeld (fun _ => ?_)
        clear hK K hfN
        try simp only [Act.put, List.setIfInBounds_toArray, List.set_cons_zero, List.set_cons_succ]
        refine wpAnyH_ready (rs := [4, 7]) (by kernel_rfl) (by simp) ?_
        refine AllReadyH.cons (o := ⟨some 29, _, _, _, _, _⟩) rfl (fun K hK => ?_) (AllReadyH.cons (o := ⟨some 32, _, _, _, _, _⟩) rfl (fun K hK => ?_) (AllReadyH.nil))
        · have hq := HP.out.c0 bl_20.out
          go_simp
          refine hK.out _ _ hHeld (fun _ => ?_)
          clear hK K
          try simp only [Act.put, List.setIfInBounds_toArray, List.set_cons_zero, List.set_cons_succ]
          refine wpAnyH_ready (rs := [7]) (by kernel_rfl) (by simp) ?_
          refine AllReadyH.cons (o := ⟨some 32, _, _, _, _, _⟩) rfl (fun K hK => ?_) (AllReadyH.nil)
          go_simp
          have hb := (Below.refl v_19.heap.size v_19).alloc (Nat.le_refl _) (.cells #[.pointer (some ⟨D2, 0, none⟩)] 64)
          have hsl := Sl.made v_19 #[.pointer (some ⟨D2, 0, none⟩)] 64 1 1 rfl (by decide)
          obtain ⟨v_22, hw⟩ : ∃ v, v = v_19.alloc (.cells #[.pointer (some ⟨D2, 0, none⟩)] 64) := ⟨_, rfl⟩
          rw [← hw] at hb hsl ⊢
          clear hw
          have hfN := Fr.of_below (S := fun b => b = w1.heap.size ∨ Bk AL b ∨ wr.heap.size ≤ b) hb
          have sb_23 := Lib.hid hsl
          have bb_24 := Lib.hid hb
          have bl_25 := Lib.hid (bl_20.out.trans (hb.mono bl_20.out.size))
          clear hsl hb
          have hHeld := hHeld.trans hfN
          have hz_26 := hfN.size
          refine hK.out _ _ hHeld (fun _ => ?_)
          clear hK K hfN
          try simp only [Act.put, List.setIfInBounds_toArray, List.set_cons_zero, List.set_cons_succ]
          refine wpAnyH_ready (rs := [8]) (by kernel_rfl) (by simp) ?_
          refine AllReadyH.cons (o := ⟨some 33, _, _, _, _, _⟩) rfl (fun K hK => ?_) (AllReadyH.nil)
          refine wp_append_rn (o := ⟨some 33, _, _, _, _, _⟩) (.tmp 29) (.tmp 32) 66 66 rfl i0 (.pointer none) 8 Try.underlying66 Hi.out Hz0.out Hz1.out Hz2.out rfl (by decide) rfl (HP.out.row.later bl_25.out) (.slice (some ⟨v_19.heap.size, 0, none⟩) 1 1) 1 [.pointer (some ⟨D2, 0, none⟩)] rfl (sb_23.out.src Try.underlying66 (by decide) (fun u hu => by simp at hu; rw [hu]; rfl)) (by unfold maxLen; omega) (by omega) ?_
          intro A7 c7 w7 hrn hfb hor
          have hfN : Fr (fun b => b = w1.heap.size ∨ Bk AL b ∨ wr.heap.size ≤ b) v_22 w7 := hfb.mono (fun b hb => .inr (.inl hb))
          have hst := HP.out.step bl_20.out HR2.out HS2.out bb_24.out hrn hfb hor
          have HST := Lib.hid hst
          have hbx := hfb.row_some ((Fr.of_below bl_25.out : Fr (fun _ => False) _ _).row_some HP.out.box (fun h => h)) NX.out
          have HBX := Lib.hid hbx
          clear hrn hfb hor hst hbx
          have hHeld := hHeld.trans hfN
          have hz_27 := hfN.size
          refine hK.out _ _ hHeld (fun _ => ?_)
          clear hK K hfN
          try simp only [Act.put, List.setIfInBounds_toArray, List.set_cons_zero, List.set_cons_succ]
          refine wpAnyH_take (i := 9) (oi := ⟨some 34, _, _, _, _, _⟩) (v := ?vg9_28) rfl (by kernel_rfl) (by kernel_rfl) (by kernel_rfl) (fun _ _ _ h => h) (Or.inl ⟨by rfl, ?yg9_28⟩) hHeld ?rg9_28
          case yg9_28 =>
            intro wq hSw
            (try dsimp only at hSw)
            first | (go_simp; done) | (go_simp; with_reducible rfl)
          try simp only [Act.put, List.setIfInBounds_toArray, List.set_cons_zero, List.set_cons_succ]
          refine wpAnyH_take (i := 10) (oi := ⟨some 35, _, _, _, _, _⟩) (v := ?vg10_29) rfl (by kernel_rfl) (by kernel_rfl) (by kernel_rfl) (fun _ _ _ h => h) (Or.inl ⟨by rfl, ?yg10_29⟩) hHeld ?rg10_29
          case yg10_29 =>
            intro wq hSw
            (try dsimp only at hSw)
            first | (go_simp; done) | (go_simp; with_reducible rfl)
          try simp only [Act.put, List.setIfInBounds_toArray, List.set_cons_zero, List.set_cons_succ]
          refine wpAnyH_ready (rs := [11]) (by kernel_rfl) (by simp) ?_
          refine AllReadyH.cons (o := ⟨none, _, _, _, _, _⟩) rfl (fun K hK => ?_) (AllReadyH.nil)
          have q1 : w7.cell? ⟨w1.heap.size, 0, none⟩ = some (.slice AL t cL) := by rw [cell_of_row _ _ _ _ _ _ HBX.out]; rfl
          have u1 : w7.frozen? ⟨w1.heap.size, 0, none⟩ = false := frozen_of_row _ _ _ _ _ HBX.out
          go_simp
          clear q1 u1
          have hfN : Fr (fun b => b = w1.heap.size ∨ Bk AL b ∨ wr.heap.size ≤ b) w7 (w7.setCell ⟨w1.heap.size, 0, none⟩ (.slice A7 (t + 1) c7)) := (Fr.refl (fun b => b = w1.heap.size ∨ Bk AL b ∨ wr.heap.size ≤ b) _).setCell (p := ⟨w1.heap.size, 0, none⟩) (.inr (.inl rfl)) _
          obtain ⟨w8, hw⟩ : ∃ v, v = w7.setCell ⟨w1.heap.size, 0, none⟩ (.slice A7 (t + 1) c7) := ⟨_, rfl⟩
          rw [← hw] at hfN HST ⊢
          clear hw
          have hHeld := hHeld.trans hfN
          have hz_30 := hfN.size
          refine hK.out _ _ hHeld (fun _ => ?_)
          clear hK K hfN
          try simp only [Act.put]
          refine wpAnyH_done (by kernel_rfl) ?_ _
          clear hHeld
          go_wp2_with fail
          go_roundw
          case rel => exact ⟨t + 1, A7, c7, _, _, by omega, by go_num, HST.out⟩
          case measure => simp [intOf]; omega
        · go_simp
          have hb := (Below.refl v_19.heap.size v_19).alloc (Nat.le_refl _) (.cells #[.pointer (some ⟨D2, 0, none⟩)] 64)
          have hsl := Sl.made v_19 #[.pointer (some ⟨D2, 0, none⟩)] 64 1 1 rfl (by decide)
          obtain ⟨v_31, hw⟩ : ∃ v, v = v_19.alloc (.cells #[.pointer (some ⟨D2, 0, none⟩)] 64) := ⟨_, rfl⟩
          rw [← hw] at hb hsl ⊢
          clear hw
          have hfN := Fr.of_below (S := fun b => b = w1.heap.size ∨ Bk AL b ∨ wr.heap.size ≤ b) hb
          have sb_32 := Lib.hid hsl
          have bb_33 := Lib.hid hb
          have bl_34 := Lib.hid (bl_20.out.trans (hb.mono bl_20.out.size))
          clear hsl hb
          have hHeld := hHeld.trans hfN
          have hz_35 := hfN.size
          refine hK.out _ _ hHeld (fun _ => ?_)
          clear hK K hfN
          try simp only [Act.put, List.setIfInBounds_toArray, List.set_cons_zero, List.set_cons_succ]
          refine wpAnyH_ready (rs := [4]) (by kernel_rfl) (by simp) ?_
          refine AllReadyH.cons (o := ⟨some 29, _, _, _, _, _⟩) rfl (fun K hK => ?_) (AllReadyH.nil)
          have hq := HP.out.c0 bl_34.out
          go_simp
          refine hK.out _ _ hHeld (fun _ => ?_)
          clear hK K
          try simp only [Act.put, List.setIfInBounds_toArray, List.set_cons_zero, List.set_cons_succ]
          refine wpAnyH_ready (rs := [8]) (by kernel_rfl) (by simp) ?_
          refine AllReadyH.cons (o := ⟨some 33, _, _, _, _, _⟩) rfl (fun K hK => ?_) (AllReadyH.nil)
          refine wp_append_rn (o := ⟨some 33, _, _, _, _, _⟩) (.tmp 29) (.tmp 32) 66 66 rfl i0 (.pointer none) 8 Try.underlying66 Hi.out Hz0.out Hz1.out Hz2.out rfl (by decide) rfl (HP.out.row.later bl_34.out) (.slice (some ⟨v_19.heap.size, 0, none⟩) 1 1) 1 [.pointer (some ⟨D2, 0, none⟩)] rfl (sb_32.out.src Try.underlying66 (by decide) (fun u hu => by simp at hu; rw [hu]; rfl)) (by unfold maxLen; omega) (by omega) ?_
          intro A7 c7 w7 hrn hfb hor
          have hfN : Fr (fun b => b = w1.heap.size ∨ Bk AL b ∨ wr.heap.size ≤ b) v_31 w7 := hfb.mono (fun b hb => .inr (.inl hb))
          have hst := HP.out.step bl_20.out HR2.out HS2.out bb_33.out hrn hfb hor
          have HST := Lib.hid hst
          have hbx := hfb.row_some ((Fr.of_below bl_34.out : Fr (fun _ => False) _ _).row_some HP.out.box (fun h => h)) NX.out
          have HBX := Lib.hid hbx
          clear hrn hfb hor hst hbx
          have hHeld := hHeld.trans hfN
          have hz_36 := hfN.size
          refine hK.out _ _ hHeld (fun _ => ?_)
          clear hK K hfN
          try simp only [Act.put, List.setIfInBounds_toArray, List.set_cons_zero, List.set_cons_succ]
          refine wpAnyH_take (i := 9) (oi := ⟨some 34, _, _, _, _, _⟩) (v := ?vg9_37) rfl (by kernel_rfl) (by kernel_rfl) (by kernel_rfl) (fun _ _ _ h => h) (Or.inl ⟨by rfl, ?yg9_37⟩) hHeld ?rg9_37
          case yg9_37 =>
            intro wq hSw
            (try dsimp only at hSw)
            first | (go_simp; done) | (go_simp; with_reducible rfl)
          try simp only [Act.put, List.setIfInBounds_toArray, List.set_cons_zero, List.set_cons_succ]
          refine wpAnyH_take (i := 10) (oi := ⟨some 35, _, _, _, _, _⟩) (v := ?vg10_38) rfl (by kernel_rfl) (by kernel_rfl) (by kernel_rfl) (fun _ _ _ h => h) (Or.inl ⟨by rfl, ?yg10_38⟩) hHeld ?rg10_38
          case yg10_38 =>
            intro wq hSw
            (try dsimp only at hSw)
            first | (go_simp; done) | (go_simp; with_reducible rfl)
          try simp only [Act.put, List.setIfInBounds_toArray, List.set_cons_zero, List.set_cons_succ]
          refine wpAnyH_ready (rs := [11]) (by kernel_rfl) (by simp) ?_
          refine AllReadyH.cons (o := ⟨none, _, _, _, _, _⟩) rfl (fun K hK => ?_) (AllReadyH.nil)
          have q1 : w7.cell? ⟨w1.heap.size, 0, none⟩ = some (.slice AL t cL) := by rw [cell_of_row _ _ _ _ _ _ HBX.out]; rfl
          have u1 : w7.frozen? ⟨w1.heap.size, 0, none⟩ = false := frozen_of_row _ _ _ _ _ HBX.out
          go_simp
          clear q1 u1
          have hfN : Fr (fun b => b = w1.heap.size ∨ Bk AL b ∨ wr.heap.size ≤ b) w7 (w7.setCell ⟨w1.heap.size, 0, none⟩ (.slice A7 (t + 1) c7)) := (Fr.refl (fun b => b = w1.heap.size ∨ Bk AL b ∨ wr.heap.size ≤ b) _).setCell (p := ⟨w1.heap.size, 0, none⟩) (.inr (.inl rfl)) _
          obtain ⟨w8, hw⟩ : ∃ v, v = w7.setCell ⟨w1.heap.size, 0, none⟩ (.slice A7 (t + 1) c7) := ⟨_, rfl⟩
          rw [← hw] at hfN HST ⊢
          clear hw
          have hHeld := hHeld.trans hfN
          have hz_39 := hfN.size
          refine hK.out _ _ hHeld (fun _ => ?_)
          clear hK K hfN
          try simp only [Act.put]
          refine wpAnyH_done (by kernel_rfl) ?_ _
          clear hHeld
          go_wp2_with fail
          go_roundw
          case rel => exact ⟨t + 1, A7, c7, _, _, by omega, by go_num, HST.out⟩
          case measure => simp [intOf]; omega
    · obtain rfl : t = n := by omega
      have hti : ¬ (t : Int) < (t : Int) := by omega
      have HR := Lib.hid hP.arr
      have HB2 := Lib.hid hP.bel
      clear hP
      go_wp2_with fail
      go_ret
      obtain ⟨S, hS1, hS2⟩ := HR.out
      exact ⟨_, S, rfl, hS1, HB2.out, hS2⟩
end
end Go.Proofs.Ytjjoeaneaibklaa
