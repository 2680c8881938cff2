/-
  Contracts of package array's New, Copy, Row, PutRow and Crash (layer 10), over what is known of package drive ('DrvK'). Condition: the array is not nil; bounds. (Written by gen_dte.py.)
-/
import Derived.Test.YtjjoeaneaibklaaDtd
import Derived.Deep.RegionHeld3
namespace Go.Proofs.Ytjjoeaneaibklaa
open Go.RowKit Go.Proofs
set_option linter.unusedVariables false

theorem info_bs10 : (Try.prog.info? 40).map (fun i => (i.zero, i.size, i.bytes)) = some (some (.slice none 0 0), 1, 24) := by kernel_rfl
theorem makep_eq (z : Int) (k : Nat) (hz : z = (k : Int)) (hk : k ≤ 1048576) (w : World) :
    (Instr.makeSlice 61 (.int .i64 z) (.int .i64 z)).run Try.prog w = .ok (.slice (some ⟨w.heap.size, 0, none⟩) k k) (w.alloc (.cells (madeCells #[.pointer none] k) 59)) := by
  obtain ⟨i0, hi, hz0, hz1, hz2⟩ := info_parts info_pd
  subst hz
  have h := run_make (P := Try.prog) w 61 59 i0 (.pointer none) Try.underlying61 hi hz0 .i64 .i64 (k : Int) (k : Int) (by omega) (by omega) (by rw [hz2]; omega) (by omega)
  rw [hz1, Nat.mul_one, Int.toNat_natCast] at h
  exact h
theorem make10_eq (z : Int) (k : Nat) (hz : z = (k : Int)) (hk : k ≤ 1048576) (w : World) :
    (Instr.makeSlice 38 (.int .i64 z) (.int .i64 z)).run Try.prog w = .ok (.slice (some ⟨w.heap.size, 0, none⟩) k k) (w.alloc (.cells (madeCells #[.slice none 0 0] k) 40)) := by
  obtain ⟨i0, hi, hz0, hz1, hz2⟩ := info_parts info_bs10
  subst hz
  have h := run_make (P := Try.prog) w 38 40 i0 (.slice none 0 0) Try.underlying38 hi hz0 .i64 .i64 (k : Int) (k : Int) (by omega) (by omega) (by rw [hz2]; omega) (by omega)
  rw [hz1, Nat.mul_one, Int.toNat_natCast] at h
  exact h
theorem Rw.made (w : World) (v : Value) (T : TypeId) (k : Nat) (hk : k ≤ maxLen) : Rw (w.alloc (.cells (madeCells #[v] k) T)) w.heap.size T 1 k k (List.replicate k v) := by
  have h := Rw.new w (madeCells #[v] k) T 1 k (by rw [size_madeCells, Nat.mul_one]) hk
  rw [toList_madeCells_one] at h
  exact h
theorem Rw.set10 {w : World} {b : Nat} {T : TypeId} {k n cap : Nat} {xs : List Value} (h : Rw w b T k n cap xs) (o : Nat) (v : Value) : Rw (w.setCell ⟨b, o, none⟩ v) b T k n cap (xs.set o v) := by
  obtain ⟨cur, hb, hs, rfl⟩ := h.ex
  exact ⟨⟨_, heap_setCell_same w b o cur T v hb, by rw [Array.size_setIfInBounds]; exact hs, by rw [Array.toList_setIfInBounds, List.take_set]⟩, h.le, h.top⟩
theorem set_mid {α : Type} {vs : List α} {t n : Nat} {z v : α} (hl : vs.length = t) (ht : t < n) : (vs ++ List.replicate (n - t) z).set t v = (vs ++ [v]) ++ List.replicate (n - (t + 1)) z := by
  rw [List.set_append_right _ _ (by omega), hl, Nat.sub_self, show n - t = (n - (t + 1)) + 1 from by omega, List.replicate_succ, List.set_cons_zero, List.append_assoc]
  rfl
/-- Lists that are laid into places one by one; nothing is in the others. -/
structure Nf {α : Type} (enc : List α → List Value) (w : World) (B0 B n t : Nat) (rs : List (List α)) : Prop where
  ex : ∃ vs : List Value, Rw w B 40 1 n n (vs ++ List.replicate (n - t) (.slice none 0 0)) ∧ vs.length = t ∧ ∀ (i : Nat) (r : List α), rs[i]? = some r → ∃ A' c', vs[i]? = some (Value.slice A' r.length c') ∧ Sl w 1 A' r.length c' (enc r) ∧ ∀ b o, 0 < r.length → A' = some ⟨b, o, none⟩ → B0 ≤ b ∧ b ≠ B
  len : rs.length = t
section
variable {α : Type} {enc : List α → List Value} {w w' : World} {B0 B n t : Nat} {rs : List (List α)} {r : List α}
theorem Nf.later (h : Nf enc w B0 B n t rs) (hb : Below w.heap.size w w') : Nf enc w' B0 B n t rs := by
  obtain ⟨vs, h1, h2, h3⟩ := h.ex
  refine ⟨⟨vs, h1.later hb, h2, fun i r hi => ?_⟩, h.len⟩
  obtain ⟨A', c', g1, g2, g3⟩ := h3 i r hi
  exact ⟨A', c', g1, g2.below hb (Nat.le_refl _), g3⟩
theorem Nf.made (w : World) (B0 n : Nat) (hn : n ≤ maxLen) : Nf enc (w.alloc (.cells (madeCells #[.slice none 0 0] n) 40)) B0 w.heap.size n 0 [] :=
  ⟨⟨[], Rw.made w _ _ n hn, rfl, fun i r hi => by simp at hi⟩, rfl⟩
theorem Nf.cell (h : Nf enc w B0 B n t rs) (ht : t < n) : w.cell? ⟨B, t, none⟩ = some (.slice none 0 0) ∧ w.frozen? ⟨B, t, none⟩ = false := by
  obtain ⟨vs, h1, h2, h3⟩ := h.ex
  refine ⟨h1.cell ?_, h1.free _⟩
  rw [List.getElem?_append_right (by omega), h2, Nat.sub_self, List.getElem?_replicate, if_pos (by omega)]
theorem Nf.store (h : Nf enc w B0 B n t rs) (ht : t < n) {A2 : Option Addr} {c2 : Nat} (h2 : Sl w 1 A2 r.length c2 (enc r)) (h2b : ∀ b o, 0 < r.length → A2 = some ⟨b, o, none⟩ → B0 ≤ b ∧ b ≠ B) : Nf enc (w.setCell ⟨B, t, none⟩ (.slice A2 r.length c2)) B0 B n (t + 1) (rs ++ [r]) := by
  obtain ⟨vs, h1, hl, h3⟩ := h.ex
  have hf : Fr (fun b => b = B) w (w.setCell ⟨B, t, none⟩ (.slice A2 r.length c2)) := (Fr.refl (fun b => b = B) _).setCell (p := ⟨B, t, none⟩) (.inr rfl) _
  refine ⟨⟨vs ++ [.slice A2 r.length c2], ?_, by rw [List.length_append, hl]; rfl, fun i r3 hi => ?_⟩, by rw [List.length_append, h.len]; rfl⟩
  · have := h1.set10 t (.slice A2 r.length c2)
    rw [set_mid hl ht] at this
    exact this
  · rcases Nat.lt_or_ge i t with hlt | hge
    · rw [List.getElem?_append_left (by rw [h.len]; exact hlt)] at hi
      obtain ⟨A3, c3, g1, g2, g3⟩ := h3 i r3 hi
      exact ⟨A3, c3, by rw [List.getElem?_append_left (by rw [hl]; exact hlt)]; exact g1, g2.fr hf (fun b o hn hA => (g3 b o hn hA).2), g3⟩
    · rw [List.getElem?_append_right (by rw [h.len]; exact hge), h.len] at hi
      have : i - t = 0 ∧ r = r3 := by
        rcases hk : i - t with _ | k
        · rw [hk] at hi; simp at hi; exact ⟨rfl, hi⟩
        · rw [hk] at hi; simp at hi
      obtain ⟨h0, rfl⟩ := this
      exact ⟨A2, c2, by rw [List.getElem?_append_right (by rw [hl]; exact hge), hl, h0]; rfl, h2.fr hf (fun b o hn hA => (h2b b o hn hA).2), h2b⟩
theorem Nf.ns (h : Nf enc w B0 B n n rs) (hB : B0 ≤ B) : Ns enc w (fun b => B0 ≤ b) (some ⟨B, 0, none⟩) n n rs := by
  obtain ⟨vs, h1, hl, h3⟩ := h.ex
  rw [Nat.sub_self, List.replicate_zero, List.append_nil] at h1
  refine ⟨⟨vs, h1.sl, fun i r hi => ?_⟩, h.len, fun b o hn hA => ?_⟩
  · obtain ⟨A', c', g1, g2, g3⟩ := h3 i r hi
    exact ⟨A', c', g1, g2, fun b o hn hA => (g3 b o hn hA).1⟩
  · injection hA with hA
    injection hA with hA _
    rw [← hA]
    exact hB
end
section
variable {Rep : World → (Nat → Prop) → Nat → Dv → Prop} {w w' : World} {S : Nat → Prop} {A c i : Nat} {AL : Option Addr} {ds : List Ds} {d : Ds} {xs : List Dv}
/-- An array that is being made: so many of its drives are there. -/
structure NewP (Rep : World → (Nat → Prop) → Nat → Dv → Prop) (w : World) (B X n m t : Nat) (ds : List Ds) (T : Nat → Prop) (wr : World) : Prop where
  row : Rw wr B 59 1 n n (ds.map Ds.ptr ++ List.replicate (n - t) (.pointer none))
  box : wr.heap[X]? = some (.cells #[.slice (some ⟨B, 0, none⟩) n n] 63 (0, 0))
  dss : Dss Rep wr T ds
  xs : ds.map Ds.x = List.replicate t (Dv.new m)
  far : ∀ b, T b → w.heap.size ≤ b ∧ b ≠ B ∧ b ≠ X
  ne : B ≠ X
  lo : w.heap.size ≤ B ∧ w.heap.size ≤ X
  bel : Below w.heap.size w wr
theorem NewP.len {B X n m t : Nat} {T : Nat → Prop} {wr : World} (h : NewP Rep w B X n m t ds T wr) : ds.length = t := by
  have := congrArg List.length h.xs
  simpa using this
theorem NewP.later (DK : DrvK Rep) {B X n m t : Nat} {T : Nat → Prop} {wr w2 : World} (h : NewP Rep w B X n m t ds T wr) (hb : Below wr.heap.size wr w2) : NewP Rep w B X n m t ds T w2 :=
  ⟨h.row.later hb, (Fr.of_below hb : Fr (fun _ => False) _ _).row_some h.box (fun h => h), h.dss.fr DK.lay (Fr.of_below hb : Fr (fun _ => False) _ _) (fun _ _ h => h), h.xs, h.far, h.ne, h.lo, h.bel.trans (hb.mono h.bel.size)⟩
theorem NewP.cell {B X n m t : Nat} {T : Nat → Prop} {wr : World} (h : NewP Rep w B X n m t ds T wr) (ht : t < n) : wr.cell? ⟨B, t, none⟩ = some (.pointer none) ∧ wr.frozen? ⟨B, t, none⟩ = false := by
  refine ⟨h.row.cell ?_, h.row.free _⟩
  rw [List.getElem?_append_right (by rw [List.length_map, h.len]; exact Nat.le_refl _), List.length_map, h.len, Nat.sub_self, List.getElem?_replicate, if_pos (by omega)]
theorem NewP.step (DK : DrvK Rep) {B X n m t D : Nat} {T S' : Nat → Prop} {wr w2 : World} (h : NewP Rep w B X n m t ds T wr) (ht : t < n) (hb : Below wr.heap.size wr w2) (hr : Rep w2 S' D (Dv.new m)) (hs : ∀ b, S' b → wr.heap.size ≤ b) :
    NewP Rep w B X n m (t + 1) (ds ++ [⟨D, S', Dv.new m⟩]) (fun b => T b ∨ S' b) (w2.setCell ⟨B, t, none⟩ (.pointer (some ⟨D, 0, none⟩))) := by
  have hf : Fr (fun b => b = B) w2 (w2.setCell ⟨B, t, none⟩ (.pointer (some ⟨D, 0, none⟩))) := (Fr.refl (fun b => b = B) _).setCell (p := ⟨B, t, none⟩) (.inr rfl) _
  have hB := h.row.lt
  have hX := block_lt h.box
  have hbs := h.bel.size
  have hfar : ∀ b, T b ∨ S' b → w.heap.size ≤ b ∧ b ≠ B ∧ b ≠ X := fun b hb => by
    rcases hb with hb | hb
    · exact h.far b hb
    · have := hs b hb
      omega
  have h2 := h.later DK hb
  refine ⟨?_, hf.row_some h2.box (fun e => h.ne e.symm), (h.dss.push DK.lay hb hr hs).fr DK.lay hf (fun b hb => (hfar b hb).2.1), ?_, hfar, h.ne, h.lo, h2.bel.trans (hf.below h2.bel.size (fun b hb => by rw [hb]; exact h.lo.1))⟩
  · have := h2.row.set10 t (.pointer (some ⟨D, 0, none⟩))
    rw [set_mid (by rw [List.length_map, h.len]) ht] at this
    rw [List.map_append]
    exact this
  · rw [List.map_append, h.xs, List.replicate_succ']
    rfl
theorem NewP.arr {B X n m : Nat} {T : Nat → Prop} {wr : World} (h : NewP Rep w B X n m n ds T wr) : ∃ S, AP Rep wr S X (List.replicate n (Dv.new m)) ∧ ∀ b, S b → w.heap.size ≤ b := by
  have hl := h.len
  have hrow := h.row
  rw [Nat.sub_self, List.replicate_zero, List.append_nil] at hrow
  have hb := h.box
  rw [← hl] at hb hrow
  have key := h.dss.ars (A := X) (c := ds.length) (AL := some ⟨B, 0, none⟩) (.inr ⟨B, rfl, hrow⟩) hb (fun b hb q => by
    obtain ⟨o, hb⟩ := hb
    injection hb with hb
    injection hb with hb _
    exact (h.far b q).2.1 hb.symm) (fun q => (h.far X q).2.2 rfl)
  refine ⟨_, ⟨_, _, ds, key, h.xs⟩, fun b hb => ?_⟩
  rcases hb with hb | ⟨o, hb⟩ | hb
  · exact (h.far b hb).1
  · injection hb with hb
    injection hb with hb _
    have := h.lo.1
    omega
  · rw [hb]; exact h.lo.2
def RetNewP (Rep : World → (Nat → Prop) → Nat → Dv → Prop) (xs : List Dv) (w : World) (e : Ending) (w' : World) : Prop := ∃ A S, e = .returned (.pointer (some ⟨A, 0, none⟩)) ∧ AP Rep w' S A xs ∧ Below w.heap.size w w' ∧ ∀ b, S b → w.heap.size ≤ b
set_option maxRecDepth 100000
set_option maxHeartbeats 1600000
theorem arnew_yes (DK : DrvK Rep) (n m : Nat) (w : World) (h1 : 1 ≤ n) (h2 : n ≤ 255) (h3 : 1 ≤ m) (h4 : m ≤ 600) : Calls Try.prog 8 #[.int .i64 (n : Int), .int .i64 (m : Int)] w (RetNewP Rep (List.replicate n (Dv.new m)) w) := by
  have q1 : ¬ (n : Int) < 1 := by omega
  have q2 : ¬ (255 : Int) < (n : Int) := by omega
  have hmk := makep_eq (n : Int) n rfl (by omega)
  go_enter Try.func8, Try.ntmps8
  go_wp2_with fail
  refine (DK.new_yes m w h3 h4).mono ?_; rintro e w1 ⟨D, S0, rfl, _, hb, _⟩
  have HB := Lib.hid hb
  clear hb
  go_wp2_with fail
  clear hmk q1 q2
  go_loopw [23] (fun i wr => ∃ (t : Nat) (ds : List Ds) (T : Nat → Prop), t ≤ n ∧ i = .int .i64 (t : Int) ∧ NewP Rep w w1.heap.size (w1.heap.size + 1) n m t ds T wr) (fun i _ => n - (intOf i).toNat)
  case atStart =>
    have hb1 : Below w1.heap.size w1 (w1.alloc (.cells (madeCells #[.pointer none] n) 59)) := (Below.refl _ _).alloc (Nat.le_refl _) _
    have hz : (w1.alloc (.cells (madeCells #[.pointer none] n) 59)).heap.size = w1.heap.size + 1 := by simp
    have hb2 := (Below.refl (w1.heap.size + 1) (w1.alloc (.cells (madeCells #[.pointer none] n) 59))).alloc (by omega) (.cells #[.slice (some ⟨w1.heap.size, 0, none⟩) n n] 63)
    have hnew := heap_alloc_new (w1.alloc (.cells (madeCells #[.pointer none] n) 59)) (.cells #[.slice (some ⟨w1.heap.size, 0, none⟩) n n] 63)
    rw [hz] at hnew
    have hwz := HB.out.size
    refine ⟨0, [], fun _ => False, by omega, rfl, ?_, hnew, ?_, rfl, (fun b h => h.elim), by omega, by omega, HB.out.trans ((hb1.trans (hb2.mono (by omega))).mono hwz)⟩
    · exact (Rw.made w1 _ _ n (by unfold maxLen; omega)).later (hb2.mono (by omega))
    · exact ⟨fun i d h => by simp at h, fun i j d e h => by simp at h, fun b h => h.elim⟩
  case round =>
    obtain ⟨t, ds, T, ht, rfl, hP⟩ := hrel
    by_cases hlt : t < n
    · have hti : (t : Int) < (n : Int) := by omega
      have HP := Lib.hid hP
      have C0 := Lib.hid (show wr.drew.cell? ⟨w1.heap.size + 1, 0, none⟩ = some (.slice (some ⟨w1.heap.size, 0, none⟩) n n) from by rw [show wr.drew.cell? ⟨w1.heap.size + 1, 0, none⟩ = wr.cell? ⟨w1.heap.size + 1, 0, none⟩ from rfl, cell_of_row _ _ _ _ _ _ hP.box]; rfl)
      have NX := Lib.hid (show ¬ w1.heap.size + 1 = w1.heap.size from by omega)
      clear hP
      go_wp2_with fail
      refine wp_region_held_drew (S := fun w' => Fr (fun b => b = w1.heap.size) wr.drew w') (by kernel_rfl) (Fr.refl _ _) (fun hHeld => ?_)
      clear hHeld
      refine wpAnyH_take (i := 0) (oi := ⟨some 26, _, _, _, _, _⟩) (v := ?vn0) rfl (by kernel_rfl) (by kernel_rfl) (by kernel_rfl) (fun _ _ _ h => h) (Or.inl ⟨by rfl, ?yn0⟩) (Fr.refl _ _) ?rn0
      case yn0 =>
        intro wq hSw
        (try dsimp only at hSw)
        first | (go_simp; done) | (go_simp; with_reducible rfl)
      try simp only [Act.put, List.setIfInBounds_toArray, List.set_cons_zero, List.set_cons_succ]
      refine wpAnyH_take (i := 1) (oi := ⟨some 27, _, _, _, _, _⟩) (v := ?vn1) rfl (by kernel_rfl) (by kernel_rfl) (by kernel_rfl) (fun _ _ _ h => h) (Or.inl ⟨by rfl, ?yn1⟩) (Fr.refl _ _) ?rn1
      case yn1 =>
        intro wq hSw
        (try dsimp only at hSw)
        first | (go_simp; done) | (go_simp; with_reducible rfl)
      try simp only [Act.put, List.setIfInBounds_toArray, List.set_cons_zero, List.set_cons_succ]
      refine wpAnyH_take (i := 2) (oi := ⟨some 28, _, _, _, _, _⟩) (v := ?vn2) rfl (by kernel_rfl) (by kernel_rfl) (by kernel_rfl) (fun _ _ _ h => h) (Or.inl ⟨by rfl, ?yn2⟩) (Fr.refl _ _) ?rn2
      case yn2 =>
        intro wq hSw
        (try dsimp only at hSw)
        first | (go_simp; done) | (go_simp; with_reducible rfl)
      try simp only [Act.put, List.setIfInBounds_toArray, List.set_cons_zero, List.set_cons_succ]
      refine wpAnyH_take (i := 3) (oi := ⟨some 29, _, _, _, _, _⟩) (v := ?vn3) rfl (by kernel_rfl) (by kernel_rfl) (by kernel_rfl) (fun _ _ _ h => h) (Or.inl ⟨by rfl, ?yn3⟩) (Fr.refl _ _) ?rn3
      case yn3 =>
        intro wq hSw
        (try dsimp only at hSw)
        have hq := hSw.cell_some C0.out NX.out
        first | (go_simp; done) | (go_simp; with_reducible rfl)
      try simp only [Act.put, List.setIfInBounds_toArray, List.set_cons_zero, List.set_cons_succ]
      refine wpAnyH_take (i := 4) (oi := ⟨some 30, _, _, _, _, _⟩) (v := ?vn4) rfl (by kernel_rfl) (by kernel_rfl) (by kernel_rfl) (fun _ _ _ h => h) (Or.inl ⟨by rfl, ?yn4⟩) (Fr.refl _ _) ?rn4
      case yn4 =>
        intro wq hSw
        (try dsimp only at hSw)
        first | (go_simp; done) | (go_simp; with_reducible rfl)
      try simp only [Act.put, List.setIfInBounds_toArray, List.set_cons_zero, List.set_cons_succ]
      refine wpAnyH_take (i := 5) (oi := ⟨some 31, _, _, _, _, _⟩) (v := ?vn5) rfl (by kernel_rfl) (by kernel_rfl) (by kernel_rfl) (fun _ _ _ h => h) (Or.inl ⟨by rfl, ?yn5⟩) (Fr.refl _ _) ?rn5
      case yn5 =>
        intro wq hSw
        (try dsimp only at hSw)
        first | (go_simp; done) | (go_simp; with_reducible rfl)
      try simp only [Act.put, List.setIfInBounds_toArray, List.set_cons_zero, List.set_cons_succ]
      refine wpAnyH_ready (rs := [6]) (by kernel_rfl) (by simp) ?_
      refine AllReadyH.cons (o := ⟨some 32, _, _, _, _, _⟩) rfl (fun K hK => ?_) AllReadyH.nil
      go_simp
      refine (DK.new_yes m wr.drew h3 h4).mono ?_; rintro e w2 ⟨D2, S2, rfl, hr2, hb2, hs2⟩
      have HST := Lib.hid (HP.out.step DK hlt ((Below.drew (Below.refl _ _)).trans hb2) hr2 hs2)
      obtain ⟨q1, u1⟩ := (HP.out.later DK ((Below.drew (Below.refl _ _)).trans hb2)).cell hlt
      have hfr := Fr.of_below (S := fun b => b = w1.heap.size) hb2
      clear hr2 hb2 hs2
      go_wp2_with fail
      refine hK.out _ _ hfr (fun hHeld => ?_)
      clear hK K hHeld
      try simp only [Act.put, List.setIfInBounds_toArray, List.set_cons_zero, List.set_cons_succ]
      refine wpAnyH_re (S' := fun w' => Fr (fun b => b = w1.heap.size) w2 w') (fun w' h => hfr.trans h) ?_
      clear hfr
      refine wpAnyH_take (i := 7) (oi := ⟨some 33, _, _, _, _, _⟩) (v := ?vn7) rfl (by kernel_rfl) (by kernel_rfl) (by kernel_rfl) (fun _ _ _ h => h) (Or.inl ⟨by rfl, ?yn7⟩) (Fr.refl _ _) ?rn7
      case yn7 =>
        intro wq hSw
        (try dsimp only at hSw)
        first | (go_simp; done) | (go_simp; with_reducible rfl)
      try simp only [Act.put, List.setIfInBounds_toArray, List.set_cons_zero, List.set_cons_succ]
      refine wpAnyH_ready (rs := [8]) (by kernel_rfl) (by simp) ?_
      refine AllReadyH.cons (o := ⟨none, _, _, _, _, _⟩) rfl (fun K hK => ?_) AllReadyH.nil
      go_simp
      have hfr : Fr (fun b => b = w1.heap.size) w2 (w2.setCell ⟨w1.heap.size, t, none⟩ (.pointer (some ⟨D2, 0, none⟩))) := (Fr.refl (fun b => b = w1.heap.size) _).setCell (p := ⟨w1.heap.size, t, none⟩) (.inr rfl) _
      obtain ⟨w3, hw⟩ : ∃ v, v = w2.setCell ⟨w1.heap.size, t, none⟩ (.pointer (some ⟨D2, 0, none⟩)) := ⟨_, rfl⟩
      rw [← hw] at hfr HST ⊢
      clear hw q1 u1
      refine hK.out _ _ hfr (fun hHeld => ?_)
      clear hK K hHeld
      try simp only [Act.put]
      refine wpAnyH_re (S' := fun w' => Fr (fun b => b = w1.heap.size) w3 w') (fun w' h => hfr.trans h) ?_
      clear hfr
      refine wpAnyH_done (by kernel_rfl) ?_ _
      go_wp2_with fail
      go_roundw
      case rel => exact ⟨t + 1, _, _, by omega, by go_num, HST.out⟩
      case measure => simp [intOf]; omega
    · obtain rfl : t = n := by omega
      have HR := Lib.hid hP.arr
      have HB2 := Lib.hid hP.bel
      clear hP
      go_wp2_with fail
      go_ret
      obtain ⟨S, hS1, hS2⟩ := HR.out
      exact ⟨_, S, rfl, hS1, HB2.out, hS2⟩
theorem arnew_no (DK : DrvK Rep) (n m : Int) (w : World) (b1 : -9223372036854775808 ≤ n ∧ n < 9223372036854775808) (b2 : -9223372036854775808 ≤ m ∧ m < 9223372036854775808) (h : ¬ (1 ≤ n ∧ n ≤ 255 ∧ 1 ≤ m ∧ m ≤ 600)) : Calls Try.prog 8 #[.int .i64 n, .int .i64 m] w fun e w' => e = .returned (.pointer none) ∧ Below w.heap.size w w' := by
  by_cases q1 : n < 1
  · clear h
    go_enter Try.func8, Try.ntmps8
    go_wp2_with fail
    go_ret
    exact ⟨rfl, Below.refl _ _⟩
  · by_cases q2 : 255 < n
    · clear h
      go_enter Try.func8, Try.ntmps8
      go_wp2_with fail
      go_ret
      exact ⟨rfl, Below.refl _ _⟩
    · have hC := DK.new_no m w b2.1 b2.2 (by omega)
      clear h
      go_enter Try.func8, Try.ntmps8
      go_wp2_with fail
      refine hC.mono ?_; clear hC; rintro e w2 ⟨rfl, hb2⟩
      go_wp2_with fail
      go_ret
      exact ⟨rfl, hb2⟩
/-- Copy. -/
theorem areach_copy (DK : DrvK Rep) (h : AP Rep w S A xs) (hw : Wl 100000 xs) (hx255 : xs.length ≤ 255) : Calls Try.prog 34 #[.pointer (some ⟨A, 0, none⟩), .func (.func 35) #[] #[]] w fun e w' => ∃ A' c' ds T, e = .returned (.slice A' xs.length c') ∧ Rn w' A' 59 1 xs.length c' (ds.map Ds.ptr) ∧ Dss Rep w' T ds ∧ ds.map Ds.x = xs ∧ (∀ b, Bk A' b → w.heap.size ≤ b ∧ ¬ T b) ∧ (∀ b, T b → w.heap.size ≤ b) ∧ Below w.heap.size w w' := by
  have hN := arN_any h
  obtain ⟨i0, hi0, hz0, hz1, hz2⟩ := info_parts info_pd
  have Hi := Lib.hid hi0
  have Hz0 := Lib.hid hz0
  have Hz1 := Lib.hid hz1
  have Hz2 := Lib.hid hz2
  have HW := Lib.hid hw
  have H0 := Lib.hid h
  obtain ⟨n, hn⟩ : ∃ n, n = xs.length := ⟨_, rfl⟩
  rw [← hn] at hN hx255 ⊢
  have HN := Lib.hid hn
  clear hi0 hz0 hz1 hz2 hw h hn
  go_enter Try.func34, Try.ntmps34
  go_wp2_with fail
  refine hN.mono ?_; clear hN; rintro e w1 ⟨rfl, hw1⟩
  obtain rfl : w = w1 := hw1.symm
  go_wp2_with fail
  go_loopw [5, 9] (fun v i wr => ∃ (t : Nat) (A' : Option Addr) (c' : Nat) (ds : List Ds) (T : Nat → Prop), t ≤ n ∧ i = .int .i64 (t : Int) ∧ v = .slice A' t c' ∧ Rn wr A' 59 1 t c' (ds.map Ds.ptr) ∧ Dss Rep wr T ds ∧ ds.map Ds.x = xs.take t ∧ (∀ b, Bk A' b → w.heap.size ≤ b ∧ ¬ T b) ∧ (∀ b, T b → w.heap.size ≤ b) ∧ Below w.heap.size w wr) (fun _ i _ => n - (intOf i).toNat)
  case atStart => exact ⟨0, none, 0, [], fun _ => False, by omega, rfl, rfl, .inl ⟨rfl, rfl, rfl, rfl⟩, Dss.nil _ _, by simp, (fun b hb => by obtain ⟨o, hb⟩ := hb; cases hb), (fun b hb => hb.elim), Below.refl _ _⟩
  case round =>
    obtain ⟨t, A', c', ds2, T, ht, rfl, rfl, hrn, hds, hxt, hA', hT, hb⟩ := hrel
    by_cases hlt : t < n
    · have hti : (t : Int) < (n : Int) := by omega
      have hx : xs[t]? = some (xs[t]'(by have := HN.out; omega)) := List.getElem?_eq_getElem _
      obtain ⟨x, hxe⟩ : ∃ x, x = xs[t]'(by have := HN.out; omega) := ⟨_, rfl⟩
      rw [← hxe] at hx
      obtain ⟨AL, c, ds, ha, hxs⟩ := H0.out.later DK.lay hb
      obtain ⟨d, hd, hdx⟩ := xs_at hxs hx
      have c0 := ha.c0
      rw [xs_len hxs, ← HN.out] at c0
      obtain ⟨g, rfl, hg⟩ := ha.at_ (by have := get_lt hd; omega)
      have cg := hg t d hd
      unfold Ds.ptr at cg
      have hC := DK.copy (by rw [hdx]; exact HW.out t x hx) (ha.rep t d hd).1
      rw [hdx] at hC
      have HX := Lib.hid hx
      have HRN := Lib.hid hrn
      have HDS := Lib.hid hds
      have HXT := Lib.hid hxt
      have HA' := Lib.hid hA'
      have HT := Lib.hid hT
      have HB := Lib.hid hb
      clear ha hxs hd hx hrn hA' hb hg hxe hdx hds hxt hT
      go_wp2_with fail
      refine hC.mono ?_; clear hC; rintro e w2 ⟨D2, S2, rfl, hr2, hb2, hs2⟩
      have HRN2 := Lib.hid (HRN.out.later hb2)
      have HDS2 := Lib.hid (HDS.out.push DK.lay hb2 hr2 hs2)
      have HB2 := Lib.hid (HB.out.trans (hb2.mono HB.out.size))
      have HT2 := Lib.hid (show ∀ b, T b ∨ S2 b → w.heap.size ≤ b from fun b hb => hb.elim (HT.out b) (fun q => by have := hs2 b q; have := HB.out.size; omega))
      have HA2 := Lib.hid (show ∀ b, Bk A' b → ¬ (T b ∨ S2 b) from fun b hb hq => hq.elim (HA'.out b hb).2 (fun q => by have := hs2 b q; have := HRN.out.lt hb; omega))
      clear hr2 hb2 hs2 c0 cg
      go_wp2_with (at_builtin; refine wpList_append_made (w := w2) (T := 59) (v := .pointer (some ⟨D2, 0, none⟩)) rfl (.tmp 12) (.tmp 22) 61 61 rfl i0 (.pointer none) 8 Try.underlying61 Try.underlying61 Hi.out Hz0.out Hz1.out Hz2.out rfl (by decide) rfl HRN2.out rfl rfl (by omega) ?pd)
      intro A3 c3 w3 hrn3 hf3 ho3
      have HRN3 := Lib.hid hrn3
      have HB3 := Lib.hid (show Below w.heap.size w w3 from HB2.out.trans (hf3.below HB2.out.size (fun b hb => (HA'.out b hb).1)))
      have HDS3 := Lib.hid (HDS2.out.fr DK.lay hf3 (fun b hb hq => HA2.out b hq hb))
      have HA3 := Lib.hid (show ∀ b, Bk A3 b → w.heap.size ≤ b ∧ ¬ (T b ∨ S2 b) from fun b hb => by
        rcases ho3 with rfl | ⟨g, rfl, hg⟩
        · exact ⟨(HA'.out b hb).1, HA2.out b hb⟩
        · obtain ⟨o, hb⟩ := hb
          injection hb with hb
          injection hb with hb _
          have := HB2.out.size
          exact ⟨by omega, fun hq => by have := HDS2.out.old b hq; omega⟩)
      clear hrn3 hf3 ho3
      go_wp2_with fail
      go_roundw
      case rel =>
        refine ⟨t + 1, A3, c3, _, _, by omega, by go_num, rfl, ?_, HDS3.out, ?_, HA3.out, HT2.out, HB3.out⟩
        · rw [List.map_append]; exact HRN3.out
        · rw [List.map_append, HXT.out, take_next HX.out]; rfl
      case measure => simp [intOf]; omega
    · obtain rfl : t = n := by omega
      have HRN := Lib.hid hrn
      have HB := Lib.hid hb
      have HDS := Lib.hid hds
      have HXT := Lib.hid (show ds2.map Ds.x = xs by rw [hxt, List.take_of_length_le (by have := HN.out; omega)])
      have HA' := Lib.hid hA'
      have HT := Lib.hid hT
      clear hrn hA' hb hds hxt hT
      go_wp2_with fail
      go_ret
      exact ⟨A', c', ds2, T, rfl, HRN.out, HDS.out, HXT.out, HA'.out, HT.out, HB.out⟩
theorem arcopy_any (DK : DrvK Rep) (h : AP Rep w S A xs) (hw : Wl 100000 xs) (hx255 : xs.length ≤ 255) : Calls Try.prog 10 #[.pointer (some ⟨A, 0, none⟩)] w (RetNewP Rep xs w) := by
  have hE := areach_copy DK h hw hx255
  obtain ⟨n, hn⟩ : ∃ n, n = xs.length := ⟨_, rfl⟩
  rw [← hn] at hE
  have HN := Lib.hid hn
  clear h hw hn hx255
  go_enter Try.func10, Try.ntmps10
  go_wp2_with fail
  refine hE.mono ?_; clear hE; rintro e w2 ⟨A', c', ds2, T, rfl, hrn, hds, hxs, hA', hT, hb⟩
  have HRN := Lib.hid hrn
  have HDS := Lib.hid hds
  have HXS := Lib.hid hxs
  have HA' := Lib.hid hA'
  have HT := Lib.hid hT
  have HB := Lib.hid hb
  clear hrn hds hxs hA' hT hb
  go_wp2_with fail
  go_ret
  have hb1 : Below w2.heap.size w2 (w2.alloc (.cells #[.slice A' n c'] 63)) := (Below.refl _ _).alloc (Nat.le_refl _) _
  have hl : ds2.length = n := by rw [xs_len HXS.out]; exact HN.out.symm
  have hbs := HB.out.size
  have hT2 : ∀ b, T b → b < w2.heap.size := fun b hb => HDS.out.old b hb
  refine ⟨w2.heap.size, fun b => T b ∨ Bk A' b ∨ b = w2.heap.size, rfl, ⟨A', c', ds2, (HDS.out.fr DK.lay (Fr.of_below hb1 : Fr (fun _ => False) _ _) (fun _ _ h => h)).ars ?_ ?_ (fun b hb => (HA'.out b hb).2) (fun q => by have := hT2 _ q; omega), HXS.out⟩, HB.out.trans (hb1.mono hbs), fun b hb => ?_⟩
  · rw [hl]; exact HRN.out.later hb1
  · rw [hl]; exact heap_alloc_new w2 _
  · rcases hb with hb | hb | hb
    · exact HT.out b hb
    · exact (HA'.out b hb).1
    · omega
end
end Go.Proofs.Ytjjoeaneaibklaa
