/-
  The contract of package drive's Copy: one like it, in new memory; slices.Clone and maps.Clone at its lists. No condition but bounds.
-/
import Derived.Test.YtmlmlmlbdjhfhaaDrs
import Derived.Shelf.SlMaps.Clone
import Derived.Lib.SliceRun
namespace Go.Proofs.Ytmlmlmlbdjhfhaa
open Go.RowKit Go.Proofs Go.Maps
set_option linter.unusedVariables false

section
variable {w : World} {D Bd cd cc M : Nat} {x : Dv} {Ac : Option Addr} {ds : List (List UInt8 × Bool)}
theorem infoS9 : (Try.prog.info? 71).map (fun i => (i.zero, i.size, i.bytes)) = some (some (.agg (sec9 nil9).toArray), 65, 65) := by kernel_rfl
set_option maxRecDepth 100000
set_option maxHeartbeats 1600000
theorem cloneS9 {b n c : Nat} {ds : List (List UInt8 × Bool)} (h : Rw w b 71 65 n c (ds.flatMap sec9)) (h1 : 1 ≤ n) (h2 : n ≤ 600) :
    Calls Try.prog 38 #[.slice (some ⟨b, 0, none⟩) n c] w fun e w' => ∃ b' c', e = .returned (.slice (some ⟨b', 0, none⟩) n c') ∧ Rw w' b' 71 65 n c' (ds.flatMap sec9) ∧ Below w.heap.size w w' ∧ w.heap.size ≤ b' := by
  have hq : (binOp .eql 59 (.slice (some ⟨b, 0, none⟩) n c) (.slice none 0 0)).run Try.prog w = .ok (.bool false) w := Lib.run_eql_slice_nil w _ _ (some ⟨b, 0, none⟩) n c 0 0 Try.underlying59
  have HR := Lib.hid h
  obtain ⟨i0, hi, hz0, hz1, hz2⟩ := info_parts infoS9
  have Hi := Lib.hid hi
  have Hz0 := Lib.hid hz0
  have Hz1 := Lib.hid hz1
  have Hz2 := Lib.hid hz2
  clear h hi hz0 hz1 hz2
  go_enter Try.func38, Try.ntmps38
  go_wp2_with (at_builtin; refine wpList_append_rw (T := 71) (size := 65) (n := 0) (c := 0) (xs := []) rfl (.tmp 5) (.tmp 6) 59 59 rfl i0 (.agg (sec9 nil9).toArray) 65 Try.underlying59 Hi.out Hz0.out Hz1.out Hz2.out (by rw [show (Value.agg (sec9 nil9).toArray).cells = (sec9 nil9).toArray from rfl, List.size_toArray, sec9_len]) (by decide) rfl (.inr ⟨w.heap.size, rfl, Rw.new w #[] _ 65 0 rfl (by decide)⟩) (.slice (some ⟨b, 0, none⟩) n c) n (ds.flatMap sec9) rfl ((HR.out.later ((Below.refl _ _).alloc (Nat.le_refl _) _)).sl.src Try.underlying59 (by decide) (flat_one sec9_one ds)) (by omega) ?pb ?pc ?pd)
  case pb => unfold maxLen; omega
  case pc => omega
  intro b2 c2 w2 hr2 hf2 ho2
  have HB := Lib.hid (show Below w.heap.size w w2 from ((Below.refl _ _).alloc (Nat.le_refl _) _).trans (hf2.below (by simp) (fun k hk => by
    obtain ⟨o, hk⟩ := hk
    injection hk with hk
    injection hk with hk _
    omega)))
  have HR2 := Lib.hid hr2
  have HG := Lib.hid (show w.heap.size ≤ b2 from by
    omega)
  clear hr2 hf2 ho2
  go_wp2_with fail
  go_ret
  exact ⟨b2, c2, rfl, HR2.out, HB.out, HG.out⟩
/-- What a clone of writes that wait answers. -/
def RetW9 (n : Nat) (xs : List Value) (w : World) (e : Ending) (w' : World) : Prop := ∃ A' c', e = .returned (.slice A' n c') ∧ Rn w' A' 68 65 n c' xs ∧ Below w.heap.size w w' ∧ ∀ b, Bk A' b → w.heap.size ≤ b
theorem cloneW9 {A : Option Addr} {n c : Nat} {ps : List (Nat × List UInt8)} (h : Rn w A 68 65 n c (ps.flatMap wrc9)) (h2 : n ≤ 100000) :
    Calls Try.prog 39 #[.slice A n c] w (RetW9 n (ps.flatMap wrc9) w) := by
  rcases h with ⟨rfl, rfl, rfl, h0⟩ | ⟨b, rfl, h⟩
  · rw [h0]
    have hq : (binOp .eql 61 (.slice none 0 0) (.slice none 0 0)).run Try.prog w = .ok (.bool true) w := Lib.run_eql_slice_nil w _ _ none 0 0 0 0 Try.underlying61
    clear h0
    go_enter Try.func39, Try.ntmps39
    go_wp2_with fail
    go_ret
    exact ⟨none, 0, rfl, .inl ⟨rfl, rfl, rfl, rfl⟩, Below.refl _ _, fun b hb => by obtain ⟨o, hb⟩ := hb; cases hb⟩
  · have hq : (binOp .eql 61 (.slice (some ⟨b, 0, none⟩) n c) (.slice none 0 0)).run Try.prog w = .ok (.bool false) w := Lib.run_eql_slice_nil w _ _ (some ⟨b, 0, none⟩) n c 0 0 Try.underlying61
    have HR := Lib.hid h
    obtain ⟨i0, hi, hz0, hz1, hz2⟩ := info_parts infoW9
    have Hi := Lib.hid hi
    have Hz0 := Lib.hid hz0
    have Hz1 := Lib.hid hz1
    have Hz2 := Lib.hid hz2
    clear h hi hz0 hz1 hz2
    by_cases hn : n = 0
    · subst hn
      have hx0 : ps.flatMap wrc9 = [] := List.eq_nil_of_length_eq_zero (by have := HR.out.len; omega)
      rw [hx0] at HR ⊢
      clear hx0
      go_enter Try.func39, Try.ntmps39
      go_wp2_with (at_builtin; refine wpList_append_no (T := 68) (size := 65) (n := 0) (c := 0) rfl (.tmp 5) (.tmp 6) 61 61 rfl i0 Try.underlying61 Hi.out Hz1.out rfl (Nat.le_refl _) (.slice (some ⟨b, 0, none⟩) 0 c) rfl ((HR.out.later ((Below.refl _ _).alloc (Nat.le_refl _) _)).sl.src Try.underlying61 (by decide) (fun u hu => by cases hu)) ?pd)
      go_wp2_with fail
      go_ret
      exact ⟨_, 0, rfl, .inr ⟨w.heap.size, rfl, Rw.new w #[] _ 65 0 rfl (by decide)⟩, (Below.refl _ _).alloc (Nat.le_refl _) _, fun b hb => by
        obtain ⟨o, hb⟩ := hb
        injection hb with hb
        injection hb with hb _
        omega⟩
    · go_enter Try.func39, Try.ntmps39
      go_wp2_with (at_builtin; refine wpList_append_rw (T := 68) (size := 65) (n := 0) (c := 0) (xs := []) rfl (.tmp 5) (.tmp 6) 61 61 rfl i0 (.agg (wrc9 (0, [])).toArray) 72 Try.underlying61 Hi.out Hz0.out Hz1.out Hz2.out (by rw [show (Value.agg (wrc9 (0, [])).toArray).cells = (wrc9 (0, [])).toArray from rfl, List.size_toArray, wrc9_len]) (by decide) rfl (.inr ⟨w.heap.size, rfl, Rw.new w #[] _ 65 0 rfl (by decide)⟩) (.slice (some ⟨b, 0, none⟩) n c) n (ps.flatMap wrc9) rfl ((HR.out.later ((Below.refl _ _).alloc (Nat.le_refl _) _)).sl.src Try.underlying61 (by decide) (flat_one wrc9_one ps)) (by omega) ?qb ?qc ?qd)
      case qb => unfold maxLen; omega
      case qc => omega
      intro b2 c2 w2 hr2 hf2 ho2
      have HB := Lib.hid (show Below w.heap.size w w2 from ((Below.refl _ _).alloc (Nat.le_refl _) _).trans (hf2.below (by simp) (fun k hk => by
        obtain ⟨o, hk⟩ := hk
        injection hk with hk
        injection hk with hk _
        omega)))
      have HR2 := Lib.hid hr2
      have HG := Lib.hid (show w.heap.size ≤ b2 from by
        omega)
      clear hr2 hf2 ho2
      go_wp2_with fail
      go_ret
      exact ⟨_, c2, rfl, .inr ⟨b2, rfl, HR2.out⟩, HB.out, fun k hk => by
        obtain ⟨o, hk⟩ := hk
        injection hk with hk
        injection hk with hk _
        have := HG.out
        omega⟩
theorem cloneM9 {l : List (Nat × List UInt8)} (h : Lst w M l) :
    Calls Try.prog 40 #[.map (some M)] w fun e w' => e = .returned (.map (some w.heap.size)) ∧ Lst w' w.heap.size l ∧ Below w.heap.size w w' := by
  obtain ⟨D, ⟨es, clock, hb, F, hs, hD⟩, h2, h3⟩ := h.ex
  have hq := fun w => run_eql_map_nil_sl (P := Try.prog) w 60 _ _ (some M) Try.underlying60
  have H2 := Lib.hid h2
  have H3 := Lib.hid h3
  have HS := Lib.hid hs
  have HD := Lib.hid hD
  have HF := Lib.hid F
  have HB := Lib.hid hb
  clear h2 h3 hs hD F hb h
  go_enter Try.func40, Try.ntmps40
  go_wp2_with fail
  rw [run_callFunc_extern Try.func46 (by kernel_rfl) (by kernel_rfl) (by kernel_rfl) (e := Extern.MapsClone.clone) (by kernel_rfl), run_maps_clone_sl w 60 HB.out]
  simp only [Result.andThen]
  rw [Oper.upon_value]
  go_wp2_with fail
  rw [run_typeAssert_map_sl _ 60 20 _ _ _ Try.underlying60]
  simp only [Result.andThen]
  rw [Oper.upon_value]
  go_wp2_with fail
  go_ret
  exact ⟨rfl, ⟨D, ⟨es, clock, heap_alloc_new w _, HF.out, HS.out, HD.out⟩, H2.out, H3.out⟩, (Below.refl _ _).alloc (Nat.le_refl _) _⟩
/-- What Copy answers. -/
def RetCopy9 (x : Dv) (w : World) (e : Ending) (w' : World) : Prop := ∃ D' Bd' cd' Ac' cc' M' ds', e = .returned (.pointer (some ⟨D', 0, none⟩)) ∧ Rq w' D' x Bd' cd' Ac' cc' M' ds' ∧ Below w.heap.size w w' ∧ ∀ b, Blk9 D' Bd' M' Ac' b → w.heap.size ≤ b
theorem dvcopy_any (hwl : x.wait.length ≤ 100000) (h : Rq w D x Bd cd Ac cc M ds) : Calls Try.prog 23 #[.pointer (some ⟨D, 0, none⟩)] w (RetCopy9 x w) := by
  have HR := Lib.hid h
  have C0 := Lib.hid (show w.drew.cell? ⟨D, 0, none⟩ = _ from h.c0)
  have C1 := Lib.hid (show w.drew.cell? ⟨D, 1, none⟩ = _ from h.c1)
  have C2 := Lib.hid (show w.drew.cell? ⟨D, 2, none⟩ = _ from h.c2)
  have C3 := Lib.hid (show w.drew.cell? ⟨D, 3, none⟩ = _ from h.c3)
  have HX1 := Lib.hid (h.disk.later (Below.drew (Below.refl _ _)))
  have RC := Lib.hid (h.rn.later (Below.drew (Below.refl _ _)))
  have LM := Lib.hid (h.lst.fr (S := fun _ => False) (Fr.refl _ _).drew (fun h => h))
  have HN1 := Lib.hid h.n1
  have HN2 := Lib.hid h.n2
  have HW := Lib.hid hwl
  obtain ⟨n, hn⟩ : ∃ n, n = x.n := ⟨_, rfl⟩
  obtain ⟨nw, hnw⟩ : ∃ nw, nw = x.wait.length := ⟨_, rfl⟩
  obtain ⟨g, hgg⟩ : ∃ g, g = x.gone := ⟨_, rfl⟩
  rw [← hn] at C0 HX1 HN1 HN2
  rw [← hnw] at C1 RC HW
  rw [← hgg] at C3
  have Hn := Lib.hid hn
  have Hnw := Lib.hid hnw
  have Hgg := Lib.hid hgg
  clear hn hnw hgg hwl h
  go_enter Try.func23, Try.ntmps23
  go_wp2_with fail
  refine wp_region_held_drew (S := fun w' => Fr (fun _ => False) w.drew w') (by kernel_rfl) (Fr.refl _ _) (fun hHeld => ?_)
  clear hHeld
  refine wpAnyH_take (i := 0) (oi := ⟨some 5, _, _, _, _, _⟩) (v := ?vs0) rfl (by kernel_rfl) (by kernel_rfl) (by kernel_rfl) (fun _ _ _ h => h) (Or.inl ⟨by rfl, ?ys0⟩) (Fr.refl _ _) ?rs0
  case ys0 =>
    intro wq hSw
    (try dsimp only at hSw)
    first | (go_simp; done) | (go_simp; with_reducible rfl)
  try simp only [Act.put, List.setIfInBounds_toArray, List.set_cons_zero, List.set_cons_succ]
  refine wpAnyH_take (i := 1) (oi := ⟨some 6, _, _, _, _, _⟩) (v := ?vs1) rfl (by kernel_rfl) (by kernel_rfl) (by kernel_rfl) (fun _ _ _ h => h) (Or.inl ⟨by rfl, ?ys1⟩) (Fr.refl _ _) ?rs1
  case ys1 =>
    intro wq hSw
    (try dsimp only at hSw)
    first | (go_simp; done) | (go_simp; with_reducible rfl)
  try simp only [Act.put, List.setIfInBounds_toArray, List.set_cons_zero, List.set_cons_succ]
  refine wpAnyH_take (i := 2) (oi := ⟨some 7, _, _, _, _, _⟩) (v := ?vs2) rfl (by kernel_rfl) (by kernel_rfl) (by kernel_rfl) (fun _ _ _ h => h) (Or.inl ⟨by rfl, ?ys2⟩) (Fr.refl _ _) ?rs2
  case ys2 =>
    intro wq hSw
    (try dsimp only at hSw)
    first | (go_simp; done) | (go_simp; with_reducible rfl)
  try simp only [Act.put, List.setIfInBounds_toArray, List.set_cons_zero, List.set_cons_succ]
  refine wpAnyH_take (i := 3) (oi := ⟨some 8, _, _, _, _, _⟩) (v := ?vs3) rfl (by kernel_rfl) (by kernel_rfl) (by kernel_rfl) (fun _ _ _ h => h) (Or.inl ⟨by rfl, ?ys3⟩) (Fr.refl _ _) ?rs3
  case ys3 =>
    intro wq hSw
    (try dsimp only at hSw)
    have hq := hSw.cell_some C0.out (fun h => h)
    first | (go_simp; done) | (go_simp; with_reducible rfl)
  try simp only [Act.put, List.setIfInBounds_toArray, List.set_cons_zero, List.set_cons_succ]
  refine wpAnyH_take (i := 5) (oi := ⟨some 10, _, _, _, _, _⟩) (v := ?vs5) rfl (by kernel_rfl) (by kernel_rfl) (by kernel_rfl) (fun _ _ _ h => h) (Or.inl ⟨by rfl, ?ys5⟩) (Fr.refl _ _) ?rs5
  case ys5 =>
    intro wq hSw
    (try dsimp only at hSw)
    first | (go_simp; done) | (go_simp; with_reducible rfl)
  try simp only [Act.put, List.setIfInBounds_toArray, List.set_cons_zero, List.set_cons_succ]
  refine wpAnyH_take (i := 6) (oi := ⟨some 11, _, _, _, _, _⟩) (v := ?vs6) rfl (by kernel_rfl) (by kernel_rfl) (by kernel_rfl) (fun _ _ _ h => h) (Or.inl ⟨by rfl, ?ys6⟩) (Fr.refl _ _) ?rs6
  case ys6 =>
    intro wq hSw
    (try dsimp only at hSw)
    first | (go_simp; done) | (go_simp; with_reducible rfl)
  try simp only [Act.put, List.setIfInBounds_toArray, List.set_cons_zero, List.set_cons_succ]
  refine wpAnyH_take (i := 7) (oi := ⟨some 12, _, _, _, _, _⟩) (v := ?vs7) rfl (by kernel_rfl) (by kernel_rfl) (by kernel_rfl) (fun _ _ _ h => h) (Or.inl ⟨by rfl, ?ys7⟩) (Fr.refl _ _) ?rs7
  case ys7 =>
    intro wq hSw
    (try dsimp only at hSw)
    first | (go_simp; done) | (go_simp; with_reducible rfl)
  try simp only [Act.put, List.setIfInBounds_toArray, List.set_cons_zero, List.set_cons_succ]
  refine wpAnyH_take (i := 8) (oi := ⟨some 13, _, _, _, _, _⟩) (v := ?vs8) rfl (by kernel_rfl) (by kernel_rfl) (by kernel_rfl) (fun _ _ _ h => h) (Or.inl ⟨by rfl, ?ys8⟩) (Fr.refl _ _) ?rs8
  case ys8 =>
    intro wq hSw
    (try dsimp only at hSw)
    have hq := hSw.cell_some C1.out (fun h => h)
    first | (go_simp; done) | (go_simp; with_reducible rfl)
  try simp only [Act.put, List.setIfInBounds_toArray, List.set_cons_zero, List.set_cons_succ]
  refine wpAnyH_take (i := 10) (oi := ⟨some 15, _, _, _, _, _⟩) (v := ?vs10) rfl (by kernel_rfl) (by kernel_rfl) (by kernel_rfl) (fun _ _ _ h => h) (Or.inl ⟨by rfl, ?ys10⟩) (Fr.refl _ _) ?rs10
  case ys10 =>
    intro wq hSw
    (try dsimp only at hSw)
    first | (go_simp; done) | (go_simp; with_reducible rfl)
  try simp only [Act.put, List.setIfInBounds_toArray, List.set_cons_zero, List.set_cons_succ]
  refine wpAnyH_take (i := 11) (oi := ⟨some 16, _, _, _, _, _⟩) (v := ?vs11) rfl (by kernel_rfl) (by kernel_rfl) (by kernel_rfl) (fun _ _ _ h => h) (Or.inl ⟨by rfl, ?ys11⟩) (Fr.refl _ _) ?rs11
  case ys11 =>
    intro wq hSw
    (try dsimp only at hSw)
    first | (go_simp; done) | (go_simp; with_reducible rfl)
  try simp only [Act.put, List.setIfInBounds_toArray, List.set_cons_zero, List.set_cons_succ]
  refine wpAnyH_take (i := 12) (oi := ⟨some 17, _, _, _, _, _⟩) (v := ?vs12) rfl (by kernel_rfl) (by kernel_rfl) (by kernel_rfl) (fun _ _ _ h => h) (Or.inl ⟨by rfl, ?ys12⟩) (Fr.refl _ _) ?rs12
  case ys12 =>
    intro wq hSw
    (try dsimp only at hSw)
    first | (go_simp; done) | (go_simp; with_reducible rfl)
  try simp only [Act.put, List.setIfInBounds_toArray, List.set_cons_zero, List.set_cons_succ]
  refine wpAnyH_take (i := 13) (oi := ⟨some 18, _, _, _, _, _⟩) (v := ?vs13) rfl (by kernel_rfl) (by kernel_rfl) (by kernel_rfl) (fun _ _ _ h => h) (Or.inl ⟨by rfl, ?ys13⟩) (Fr.refl _ _) ?rs13
  case ys13 =>
    intro wq hSw
    (try dsimp only at hSw)
    have hq := hSw.cell_some C2.out (fun h => h)
    first | (go_simp; done) | (go_simp; with_reducible rfl)
  try simp only [Act.put, List.setIfInBounds_toArray, List.set_cons_zero, List.set_cons_succ]
  refine wpAnyH_take (i := 15) (oi := ⟨some 20, _, _, _, _, _⟩) (v := ?vs15) rfl (by kernel_rfl) (by kernel_rfl) (by kernel_rfl) (fun _ _ _ h => h) (Or.inl ⟨by rfl, ?ys15⟩) (Fr.refl _ _) ?rs15
  case ys15 =>
    intro wq hSw
    (try dsimp only at hSw)
    first | (go_simp; done) | (go_simp; with_reducible rfl)
  try simp only [Act.put, List.setIfInBounds_toArray, List.set_cons_zero, List.set_cons_succ]
  refine wpAnyH_take (i := 16) (oi := ⟨some 21, _, _, _, _, _⟩) (v := ?vs16) rfl (by kernel_rfl) (by kernel_rfl) (by kernel_rfl) (fun _ _ _ h => h) (Or.inl ⟨by rfl, ?ys16⟩) (Fr.refl _ _) ?rs16
  case ys16 =>
    intro wq hSw
    (try dsimp only at hSw)
    first | (go_simp; done) | (go_simp; with_reducible rfl)
  try simp only [Act.put, List.setIfInBounds_toArray, List.set_cons_zero, List.set_cons_succ]
  refine wpAnyH_take (i := 17) (oi := ⟨some 22, _, _, _, _, _⟩) (v := ?vs17) rfl (by kernel_rfl) (by kernel_rfl) (by kernel_rfl) (fun _ _ _ h => h) (Or.inl ⟨by rfl, ?ys17⟩) (Fr.refl _ _) ?rs17
  case ys17 =>
    intro wq hSw
    (try dsimp only at hSw)
    first | (go_simp; done) | (go_simp; with_reducible rfl)
  try simp only [Act.put, List.setIfInBounds_toArray, List.set_cons_zero, List.set_cons_succ]
  refine wpAnyH_take (i := 18) (oi := ⟨some 23, _, _, _, _, _⟩) (v := ?vs18) rfl (by kernel_rfl) (by kernel_rfl) (by kernel_rfl) (fun _ _ _ h => h) (Or.inl ⟨by rfl, ?ys18⟩) (Fr.refl _ _) ?rs18
  case ys18 =>
    intro wq hSw
    (try dsimp only at hSw)
    have hq := hSw.cell_some C3.out (fun h => h)
    first | (go_simp; done) | (go_simp; with_reducible rfl)
  try simp only [Act.put, List.setIfInBounds_toArray, List.set_cons_zero, List.set_cons_succ]
  refine wpAnyH_ready (rs := [4]) (by kernel_rfl) (by simp) ?_
  refine AllReadyH.cons (o := ⟨some 9, _, _, _, _, _⟩) rfl (fun K hK => ?_) AllReadyH.nil
  go_simp
  refine (cloneS9 HX1.out HN1.out HN2.out).mono ?_; rintro e w2 ⟨b2, c2, rfl, hr, hb, hge⟩
  have hfr := Fr.of_below (S := fun _ => False) hb
  have Fw2 := Lib.hid hfr
  have R2 := Lib.hid hr
  have G2 := Lib.hid hge
  have RC := Lib.hid (RC.out.later hb)
  have LM := Lib.hid (LM.out.fr hfr (fun h => h))
  clear hr hge hb
  have C0 := Lib.hid (hfr.cell_some C0.out (fun h => h))
  have C1 := Lib.hid (hfr.cell_some C1.out (fun h => h))
  have C2 := Lib.hid (hfr.cell_some C2.out (fun h => h))
  have C3 := Lib.hid (hfr.cell_some C3.out (fun h => h))

  go_wp2_with fail
  refine hK.out _ _ hfr (fun hHeld => ?_)
  clear hK K hHeld
  try simp only [Act.put, List.setIfInBounds_toArray, List.set_cons_zero, List.set_cons_succ]
  refine wpAnyH_re (S' := fun w' => Fr (fun _ => False) w2 w') (fun w' h => hfr.trans h) ?_
  clear hfr
  refine wpAnyH_ready (rs := [9]) (by kernel_rfl) (by simp) ?_
  refine AllReadyH.cons (o := ⟨some 14, _, _, _, _, _⟩) rfl (fun K hK => ?_) AllReadyH.nil
  go_simp
  refine (cloneW9 RC.out HW.out).mono ?_; rintro e w3 ⟨A3, c3, rfl, hr, hb, hge⟩
  have hfr := Fr.of_below (S := fun _ => False) hb
  have Fw3 := Lib.hid hfr
  have R2 := Lib.hid (R2.out.later hb)
  have R3 := Lib.hid hr
  have G3 := Lib.hid hge
  have LM := Lib.hid (LM.out.fr hfr (fun h => h))
  have S3 := Lib.hid hb.size
  clear hr hge hb
  have C0 := Lib.hid (hfr.cell_some C0.out (fun h => h))
  have C1 := Lib.hid (hfr.cell_some C1.out (fun h => h))
  have C2 := Lib.hid (hfr.cell_some C2.out (fun h => h))
  have C3 := Lib.hid (hfr.cell_some C3.out (fun h => h))

  go_wp2_with fail
  refine hK.out _ _ hfr (fun hHeld => ?_)
  clear hK K hHeld
  try simp only [Act.put, List.setIfInBounds_toArray, List.set_cons_zero, List.set_cons_succ]
  refine wpAnyH_re (S' := fun w' => Fr (fun _ => False) w3 w') (fun w' h => hfr.trans h) ?_
  clear hfr
  refine wpAnyH_ready (rs := [14]) (by kernel_rfl) (by simp) ?_
  refine AllReadyH.cons (o := ⟨some 19, _, _, _, _, _⟩) rfl (fun K hK => ?_) AllReadyH.nil
  go_simp
  refine (cloneM9 LM.out).mono ?_; rintro e w4 ⟨rfl, hr, hb⟩
  have hfr := Fr.of_below (S := fun _ => False) hb
  have Fw4 := Lib.hid hfr
  have R2 := Lib.hid (R2.out.later hb)
  have R3 := Lib.hid (R3.out.later hb)
  have L4 := Lib.hid hr
  clear hr hb
  have C0 := Lib.hid (hfr.cell_some C0.out (fun h => h))
  have C1 := Lib.hid (hfr.cell_some C1.out (fun h => h))
  have C2 := Lib.hid (hfr.cell_some C2.out (fun h => h))
  have C3 := Lib.hid (hfr.cell_some C3.out (fun h => h))

  go_wp2_with fail
  refine hK.out _ _ hfr (fun hHeld => ?_)
  clear hK K hHeld
  try simp only [Act.put, List.setIfInBounds_toArray, List.set_cons_zero, List.set_cons_succ]
  refine wpAnyH_re (S' := fun w' => Fr (fun _ => False) w4 w') (fun w' h => hfr.trans h) ?_
  clear hfr
  refine wpAnyH_take (i := 19) (oi := ⟨some 24, _, _, _, _, _⟩) (v := ?vs19) rfl (by kernel_rfl) (by kernel_rfl) (by kernel_rfl) (fun _ _ _ h => h) (Or.inl ⟨by rfl, ?ys19⟩) (Fr.refl _ _) ?rs19
  case ys19 =>
    intro wq hSw
    (try dsimp only at hSw)
    first | (go_simp; done) | (go_simp; with_reducible rfl)
  try simp only [Act.put, List.setIfInBounds_toArray, List.set_cons_zero, List.set_cons_succ]
  refine wpAnyH_ready (rs := [20]) (by kernel_rfl) (by simp) ?_
  refine AllReadyH.cons (o := ⟨some 25, _, _, _, _, _⟩) rfl (fun K hK => ?_) AllReadyH.nil
  go_simp
  have hb : Below w4.heap.size w4 (w4.alloc (.cells #[.slice (some ⟨b2, 0, none⟩) n c2, .slice A3 nw c3, .map (some w3.heap.size), .bool g] 63)) := (Below.refl _ _).alloc (Nat.le_refl _) _
  have hx := heap_alloc_new w4 (.cells #[.slice (some ⟨b2, 0, none⟩) n c2, .slice A3 nw c3, .map (some w3.heap.size), .bool g] 63)
  obtain ⟨w5, hw⟩ : ∃ v, v = w4.alloc (.cells #[.slice (some ⟨b2, 0, none⟩) n c2, .slice A3 nw c3, .map (some w3.heap.size), .bool g] 63) := ⟨_, rfl⟩
  rw [← hw] at hb hx ⊢
  clear hw
  have hfr := Fr.of_below (S := fun _ => False) hb
  have Fw5 := Lib.hid hfr
  have R2 := Lib.hid (R2.out.later hb)
  have R3 := Lib.hid (R3.out.later hb)
  have L4 := Lib.hid (L4.out.fr hfr (fun h => h))
  have X5 := Lib.hid hx
  clear hx hb
  have C0 := Lib.hid (hfr.cell_some C0.out (fun h => h))
  have C1 := Lib.hid (hfr.cell_some C1.out (fun h => h))
  have C2 := Lib.hid (hfr.cell_some C2.out (fun h => h))
  have C3 := Lib.hid (hfr.cell_some C3.out (fun h => h))
  refine hK.out _ _ hfr (fun hHeld => ?_)
  clear hK K hHeld
  try simp only [Act.put, List.setIfInBounds_toArray, List.set_cons_zero, List.set_cons_succ]
  refine wpAnyH_re (S' := fun w' => Fr (fun _ => False) w5 w') (fun w' h => hfr.trans h) ?_
  clear hfr
  refine wpAnyH_take (i := 21) (oi := ⟨some 2, _, _, _, _, _⟩) (v := ?vs21) rfl (by kernel_rfl) (by kernel_rfl) (by kernel_rfl) (fun _ _ _ h => h) (Or.inl ⟨by rfl, ?ys21⟩) (Fr.refl _ _) ?rs21
  case ys21 =>
    intro wq hSw
    (try dsimp only at hSw)
    first | (go_simp; done) | (go_simp; with_reducible rfl)
  try simp only [Act.put, List.setIfInBounds_toArray, List.set_cons_zero, List.set_cons_succ]
  refine wpAnyH_done (by kernel_rfl) ?_ _
  go_wp2_with fail
  go_ret
  have hr := HR.out
  have hx5 := X5.out
  have hr2 := R2.out
  have hr3 := R3.out
  rw [Hn.out, Hnw.out, Hgg.out] at hx5
  rw [Hn.out] at hr2
  rw [Hnw.out] at hr3
  have B := (((Fw2.out.trans Fw3.out).trans Fw4.out).trans Fw5.out)
  have B0 : Below w.heap.size w.drew w5 := B.below (Nat.le_refl _) (fun _ h => h.elim)
  refine ⟨_, b2, c2, A3, c3, _, ds, rfl, ⟨hx5, hr2, ?_, L4.out, hr.len, hr.n1, hr.n2, hr.ok, hr.has⟩, (Below.drew (Below.refl _ _)).trans B0, fun b hb => ?_⟩
  · rcases hr3 with ⟨q1, q2, q3, q4⟩ | q
    · exact .inl ⟨List.eq_nil_of_length_eq_zero q1, q2, q3⟩
    · exact .inr q
  · have s2 := Fw2.out.size
    have s3 := Fw3.out.size
    have s4 := Fw4.out.size
    have g2 := G2.out
    have g3 := G3.out
    simp only [World.drew] at s2 g2
    rcases hb with hb | hb | hb | hb
    · omega
    · omega
    · omega
    · have := g3 b hb
      omega
end
end Go.Proofs.Ytmlmlmlbdjhfhaa
