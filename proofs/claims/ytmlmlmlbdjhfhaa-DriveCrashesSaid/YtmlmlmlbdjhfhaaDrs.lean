/-
  The contract of package drive's Write: what is written waits, behind the others. No condition but bounds.
-/
import Derived.Test.YtmlmlmlbdjhfhaaDrr
import Derived.Test.YtmlmlmlbdjhfhaaApf
namespace Go.Proofs.Ytmlmlmlbdjhfhaa
open Go.RowKit Go.Proofs Go.Maps
set_option linter.unusedVariables false

theorem arr9 (b o c : Nat) (w : World) : (Instr.arrayAt 66 (.slice (some ⟨b, o, none⟩) 64 c)).run Try.prog w = .ok (.pointer (some ⟨b, o, none⟩)) w := by
  simp [Instr.arrayAt, run_underlying Try.underlying66]
theorem step_buildW9 {ρ : Operand → Value} {o : Oper} {x y : Operand} {w : World} {i : Nat} {l : List UInt8} (ho : o.op = .build 68 #[(0, x), (1, y)]) (hx : ρ x = .int .i64 (i : Int)) (hy : ρ y = .agg (cells (pad9 l)).toArray) : (execOp ρ o).run Try.prog w = .ok (.value (.agg (wrc9 (i, l)).toArray)) w := by
  have h := buildW9 i l w
  unfold execOp
  simp [ho, hx, hy, h, Result.andThen]
theorem Lst.upd {w : World} {M : Nat} {l : List (Nat × List UInt8)} (h : Lst w M l) (p : Nat × List UInt8) (hi : p.1 < 9223372036854775808) (hl : l.length ≤ 100000) :
    ∃ w', (Instr.mapUpdate 60 (.map (some M)) (.int .i64 (p.1 : Int)) (.int .i64 (l.length : Int))).run Try.prog w = .ok () w' ∧ Fr (fun b => b = M) w w' ∧ Lst w' M (l ++ [p]) := by
  obtain ⟨D, h1, h2, h3⟩ := h.ex
  have hkey : keyOf Try.prog 3 (.int .i64 (p.1 : Int)) = some (.int .i64 (p.1 : Int)) := keyOf_int_mk Try.underlying3 (wf_of (by omega))
  obtain ⟨w', hrun, hown, hg⟩ := h1.update keyedI Try.underlying60 (by unfold maxLen; omega) hkey (plainElem_int (a := (l.length : Int)) Try.underlying3 (wf_of (by omega)))
  obtain ⟨s1, s2⟩ := Lst.step h2 h3 p
  refine ⟨w', hrun, ⟨hg.os, hg.tape, hg.output, hg.size, fun k hk hs => hg.block k hk (fun e => by injection e with e; exact hs e)⟩, ⟨_, ?_, s1, s2⟩⟩
  rw [List.length_append]
  exact hown
section
variable {w : World} {D Bd cd cc M : Nat} {x : Dv} {Ac : Option Addr} {ds : List (List UInt8 × Bool)}
theorem Rq.rn (h : Rq w D x Bd cd Ac cc M ds) : Rn w Ac 68 65 x.wait.length cc (x.wait.flatMap wrc9) := by
  rcases h.cch with ⟨h0, hA, hc⟩ | hh
  · exact .inl ⟨by rw [h0]; rfl, hA, hc, by rw [h0]; rfl⟩
  · exact .inr hh
/-- Behind the map's update, append and the store: the drive with one more write. -/
theorem wrote9 {w6 w8 : World} {i nw b7 c7 : Nat} {l : List UInt8} (h : Rq w D x Bd cd Ac cc M ds) (hi : x.gone = false ∧ i < x.n ∧ nw = x.wait.length) (hl : l.length = 64) (hF6 : Fr (fun b => b = M) w.drew w6) (hL6 : Lst w6 M (x.wait ++ [(i, l)])) (hH : Fr (Bk7 D Ac) w6 w8)
    (hbx : w8.heap[D]? = some (.cells #[.slice (some ⟨Bd, 0, none⟩) x.n cd, .slice (some ⟨b7, 0, none⟩) (nw + 1) c7, .map (some M), .bool x.gone] 63 (0, 0)))
    (hrw : Rw w8 b7 68 65 (nw + 1) c7 (x.wait.flatMap wrc9 ++ wrc9 (i, l))) (ho : Ac = some ⟨b7, 0, none⟩ ∨ w.heap.size ≤ b7) (hsz : w.heap.size ≤ w6.heap.size) :
    RetSt9 (x.write (i : Int) l) D Bd cd M Ac (.int .i64 0) w (.returned (.int .i64 0)) w8 := by
  have hx : x.write (i : Int) l = ⟨x.st, x.rot, x.wait ++ [(i, l)], x.gone⟩ := by
    rw [Dv.write_yes hi.1 (by unfold Dv.has; omega) hl, Int.toNat_natCast]
  have hok : (x.write (i : Int) l).Ok := h.ok.write _ _
  rw [hx] at hok
  rw [hx]
  have e6 : Fr (Blk9 D Bd M Ac) w w6 := ((Fr.refl _ _).drew).trans (hF6.mono fun b hb => .inr (.inr (.inl hb)))
  have e8 : Fr (Blk9 D Bd M Ac) w6 w8 := hH.mono fun b hb => hb.elim .inl (fun h => .inr (.inr (.inr h)))
  refine ⟨rfl, e6.trans e8, c7, some ⟨b7, 0, none⟩, ds, ⟨?_, ?_, .inr ⟨b7, rfl, ?_⟩, ?_, h.len, h.n1, h.n2, hok, h.has⟩, fun b hb => ?_⟩
  · show w8.heap[D]? = some (.cells #[.slice (some ⟨Bd, 0, none⟩) x.n cd, .slice (some ⟨b7, 0, none⟩) (x.wait ++ [(i, l)]).length c7, .map (some M), .bool x.gone] 63 (0, 0))
    rw [List.length_append, ← hi.2.2]
    exact hbx
  · refine (((h.disk.later (Below.drew (Below.refl _ _))).fr hF6 h.ne3).fr hH (fun hb => ?_))
    rcases hb with hb | ⟨o, hb⟩
    · exact h.ne1 hb.symm
    · exact (h.ne4 hb).2.1 rfl
  · show Rw w8 b7 68 65 (x.wait ++ [(i, l)]).length c7 ((x.wait ++ [(i, l)]).flatMap wrc9)
    rw [List.length_append, ← hi.2.2, List.flatMap_append]
    simpa using hrw
  · refine hL6.fr hH (fun hb => ?_)
    rcases hb with hb | ⟨o, hb⟩
    · exact h.ne2 hb.symm
    · exact (h.ne4 hb).2.2 rfl
  · rcases hb with hb | hb | hb | ⟨o, hb⟩
    · exact .inl (.inl hb)
    · exact .inl (.inr (.inl hb))
    · exact .inl (.inr (.inr (.inl hb)))
    · injection hb with hb
      injection hb with hb hb'
      subst hb
      exact ho.imp (fun e => .inr (.inr (.inr ⟨0, e⟩))) id
set_option maxRecDepth 100000
set_option maxHeartbeats 4000000
theorem dvwrite_any (z : Int) (A : Option Addr) (n c : Nat) (l : List UInt8) (h1 : -9223372036854775808 ≤ z) (h2 : z < 9223372036854775808) (hwl : x.wait.length ≤ 100000) (h : Rq w D x Bd cd Ac cc M ds) (hs : Sl w 1 A n c (cells l)) :
    Calls Try.prog 9 #[.pointer (some ⟨D, 0, none⟩), .int .i64 z, .slice A n c] w (RetSt9 (x.write z l) D Bd cd M Ac (.int .i64 (x.writeX z l)) w) := by
  have hm := dvrefuses_any z h1 h2 h
  have hln : l.length = n := by have := hs.len; rw [cells_length] at this; omega
  by_cases hx : x.gone = false ∧ x.has z
  · rw [Dv.refX_yes hx.1 hx.2] at hm
    by_cases h64 : n = 64
    · rw [Dv.writeX_yes hx.1 hx.2 (by omega)]
      subst h64
      have hz := hx.2
      unfold Dv.has at hz
      obtain ⟨i, rfl⟩ : ∃ i : Nat, z = (i : Int) := ⟨z.toNat, by omega⟩
      have hi : i < x.n := by omega
      obtain ⟨b, o, rfl, hc⟩ := hs.at_ (k := 0) (by decide)
      have hrg : w.rangeAt b o (cells (pad9 l)) := by rw [pad9_eq hln]; exact hc
      obtain ⟨nw, hnw⟩ : ∃ nw, nw = x.wait.length := ⟨_, rfl⟩
      obtain ⟨w6, hrun6, hF6, hL6⟩ := (h.lst.fr (S := fun _ => False) (Fr.refl _ _).drew (fun h => h)).upd (i, l) (by show i < _; omega) hwl
      rw [← hnw] at hrun6 hwl
      have c1 : w.drew.cell? ⟨D, 1, none⟩ = _ := h.c1
      have c2 : w.drew.cell? ⟨D, 2, none⟩ = _ := h.c2
      rw [← hnw] at c1
      have rn := h.rn
      rw [← hnw] at rn
      have bx := h.box
      rw [← hnw] at bx
      have HR := Lib.hid h
      have HU := Lib.hid hrun6
      have HF6 := Lib.hid hF6
      have HL6 := Lib.hid hL6
      have HLen := Lib.hid hln
      have Hi := Lib.hid (show x.gone = false ∧ i < x.n ∧ nw = x.wait.length from ⟨hx.1, hi, hnw⟩)
      have C1 := Lib.hid c1
      have C2 := Lib.hid c2
      have N2 := Lib.hid (show ¬ D = M from h.ne2)
      have ND := Lib.hid (show ¬ Bk Ac D from fun ⟨o', e⟩ => (h.ne4 e).1 rfl)
      have HW6 := Lib.hid (show w.heap.size ≤ w6.heap.size from hF6.size)
      have HLT := Lib.hid (show D < w6.heap.size from Nat.lt_of_lt_of_le (block_lt h.box) hF6.size)
      have hFw : Fr (fun b => b = M) w w6 := ((Fr.refl _ _).drew).trans hF6
      have C17 := Lib.hid (show w6.drew.cell? ⟨D, 1, none⟩ = some (.slice Ac nw cc) from hFw.cell_some c1 h.ne2)
      have RN7 := Lib.hid (show Rn w6.drew Ac 68 65 nw cc (x.wait.flatMap wrc9) from (rn.fr hFw (fun b hb e => (h.ne4 hb.choose_spec).2.2 e)).later (Below.drew (Below.refl _ _)))
      have BX7 := Lib.hid (show w6.drew.heap[D]? = _ from hFw.row_some bx h.ne2)
      obtain ⟨es, clock, hMap⟩ := map_blk h.lst
      have RG7 := Lib.hid (show w6.drew.rangeAt b o (cells (pad9 l)) from fun j v hv => hFw.cell_some (hrg j v hv) (fun e => by
        have := hrg j v hv
        simp only at e
        rw [e] at this
        simp [World.cell?, hMap] at this))
      obtain ⟨i0, hi0, hz0, hz1, hz2⟩ := info_parts infoW9
      clear h hs hc hrg hrun6 hF6 hL6 c1 c2 rn bx hnw hln hx hz hi h1 h2 hFw hMap
      go_enter Try.func9, Try.ntmps9
      go_wp2_with fail
      refine hm.mono ?_; rintro e w1 ⟨rfl, hw1⟩
      obtain rfl : w = w1 := hw1.symm
      clear hm
      go_wp2_with fail
      refine wp_region_held_drew (S := fun w' => Fr (fun b => b = M) w.drew w') (by kernel_rfl) (Fr.refl _ _) (fun hHeld => ?_)
      clear hHeld
      refine wpAnyH_take (i := 0) (oi := ⟨some 17, _, _, _, _, _⟩) (v := ?vs0) rfl (by kernel_rfl) (by kernel_rfl) (by kernel_rfl) (fun _ _ _ h => h) (Or.inl ⟨by rfl, ?ys0⟩) (Fr.refl _ _) ?rs0
      case ys0 =>
        intro wq hSw
        (try dsimp only at hSw)
        first | (go_simp; done) | (go_simp; with_reducible rfl)
      try simp only [Act.put, List.setIfInBounds_toArray, List.set_cons_zero, List.set_cons_succ]
      refine wpAnyH_take (i := 1) (oi := ⟨some 18, _, _, _, _, _⟩) (v := ?vs1) rfl (by kernel_rfl) (by kernel_rfl) (by kernel_rfl) (fun _ _ _ h => h) (Or.inl ⟨by rfl, ?ys1⟩) (Fr.refl _ _) ?rs1
      case ys1 =>
        intro wq hSw
        (try dsimp only at hSw)
        first | (go_simp; done) | (go_simp; with_reducible rfl)
      try simp only [Act.put, List.setIfInBounds_toArray, List.set_cons_zero, List.set_cons_succ]
      refine wpAnyH_take (i := 2) (oi := ⟨some 19, _, _, _, _, _⟩) (v := ?vs2) rfl (by kernel_rfl) (by kernel_rfl) (by kernel_rfl) (fun _ _ _ h => h) (Or.inl ⟨by rfl, ?ys2⟩) (Fr.refl _ _) ?rs2
      case ys2 =>
        intro wq hSw
        (try dsimp only at hSw)
        first | (go_simp; done) | (go_simp; with_reducible rfl)
      try simp only [Act.put, List.setIfInBounds_toArray, List.set_cons_zero, List.set_cons_succ]
      refine wpAnyH_take (i := 3) (oi := ⟨some 20, _, _, _, _, _⟩) (v := ?vs3) rfl (by kernel_rfl) (by kernel_rfl) (by kernel_rfl) (fun _ _ _ h => h) (Or.inl ⟨by rfl, ?ys3⟩) (Fr.refl _ _) ?rs3
      case ys3 =>
        intro wq hSw
        (try dsimp only at hSw)
        have hq := hSw.cell_some C2.out N2.out
        first | (go_simp; done) | (go_simp; with_reducible rfl)
      try simp only [Act.put, List.setIfInBounds_toArray, List.set_cons_zero, List.set_cons_succ]
      refine wpAnyH_take (i := 4) (oi := ⟨some 21, _, _, _, _, _⟩) (v := ?vs4) rfl (by kernel_rfl) (by kernel_rfl) (by kernel_rfl) (fun _ _ _ h => h) (Or.inl ⟨by rfl, ?ys4⟩) (Fr.refl _ _) ?rs4
      case ys4 =>
        intro wq hSw
        (try dsimp only at hSw)
        first | (go_simp; done) | (go_simp; with_reducible rfl)
      try simp only [Act.put, List.setIfInBounds_toArray, List.set_cons_zero, List.set_cons_succ]
      refine wpAnyH_take (i := 5) (oi := ⟨some 22, _, _, _, _, _⟩) (v := ?vs5) rfl (by kernel_rfl) (by kernel_rfl) (by kernel_rfl) (fun _ _ _ h => h) (Or.inl ⟨by rfl, ?ys5⟩) (Fr.refl _ _) ?rs5
      case ys5 =>
        intro wq hSw
        (try dsimp only at hSw)
        first | (go_simp; done) | (go_simp; with_reducible rfl)
      try simp only [Act.put, List.setIfInBounds_toArray, List.set_cons_zero, List.set_cons_succ]
      refine wpAnyH_take (i := 6) (oi := ⟨some 23, _, _, _, _, _⟩) (v := ?vs6) rfl (by kernel_rfl) (by kernel_rfl) (by kernel_rfl) (fun _ _ _ h => h) (Or.inl ⟨by rfl, ?ys6⟩) (Fr.refl _ _) ?rs6
      case ys6 =>
        intro wq hSw
        (try dsimp only at hSw)
        first | (go_simp; done) | (go_simp; with_reducible rfl)
      try simp only [Act.put, List.setIfInBounds_toArray, List.set_cons_zero, List.set_cons_succ]
      refine wpAnyH_take (i := 7) (oi := ⟨some 24, _, _, _, _, _⟩) (v := ?vs7) rfl (by kernel_rfl) (by kernel_rfl) (by kernel_rfl) (fun _ _ _ h => h) (Or.inl ⟨by rfl, ?ys7⟩) (Fr.refl _ _) ?rs7
      case ys7 =>
        intro wq hSw
        (try dsimp only at hSw)
        first | (go_simp; done) | (go_simp; with_reducible rfl)
      try simp only [Act.put, List.setIfInBounds_toArray, List.set_cons_zero, List.set_cons_succ]
      refine wpAnyH_take (i := 8) (oi := ⟨some 25, _, _, _, _, _⟩) (v := ?vs8) rfl (by kernel_rfl) (by kernel_rfl) (by kernel_rfl) (fun _ _ _ h => h) (Or.inl ⟨by rfl, ?ys8⟩) (Fr.refl _ _) ?rs8
      case ys8 =>
        intro wq hSw
        (try dsimp only at hSw)
        have hq := hSw.cell_some C1.out N2.out
        first | (go_simp; done) | (go_simp; with_reducible rfl)
      try simp only [Act.put, List.setIfInBounds_toArray, List.set_cons_zero, List.set_cons_succ]
      refine wpAnyH_take (i := 9) (oi := ⟨some 26, _, _, _, _, _⟩) (v := ?vs9) rfl (by kernel_rfl) (by kernel_rfl) (by kernel_rfl) (fun _ _ _ h => h) (Or.inl ⟨by rfl, ?ys9⟩) (Fr.refl _ _) ?rs9
      case ys9 =>
        intro wq hSw
        (try dsimp only at hSw)
        first | (go_simp; done) | (go_simp; with_reducible rfl)
      try simp only [Act.put, List.setIfInBounds_toArray, List.set_cons_zero, List.set_cons_succ]
      refine wpAnyH_ready (rs := [10]) (by kernel_rfl) (by simp) ?_
      refine AllReadyH.cons (o := ⟨none, _, _, _, _, _⟩) rfl (fun K hK => ?_) AllReadyH.nil
      have hrun := HU.out
      go_simp
      clear hrun
      have hfr := HF6.out
      refine hK.out _ _ hfr (fun hHeld => ?_)
      clear hK K hHeld
      try simp only [Act.put, List.setIfInBounds_toArray, List.set_cons_zero, List.set_cons_succ]
      refine wpAnyH_re (S' := fun w' => Fr (fun b => b = M) w6 w') (fun w' h => hfr.trans h) ?_
      clear hfr
      refine wpAnyH_done (by kernel_rfl) ?_ _
      go_wp2_with fail
      refine wp_region_held_drew (S := fun w' => Fr (Bk7 D Ac) w6 w') (by kernel_rfl) (Fr.drew (Fr.refl _ _)) (fun hHeld => ?_)
      clear hHeld
      have hHeld : Fr (Bk7 D Ac) w6 w6.drew := Fr.drew (Fr.refl _ _)
      have hz_0 : w6.heap.size ≤ w6.drew.heap.size := Nat.le_refl _
      obtain ⟨v_1, hw⟩ : ∃ v_1, v_1 = w6.drew := ⟨_, rfl⟩
      rw [← hw] at hHeld hz_0 C17 RN7 BX7 RG7 ⊢
      clear hw
      refine wpAnyH_take (i := 0) (oi := ⟨some 27, _, _, _, _, _⟩) (v := ?vg0_2) rfl (by kernel_rfl) (by kernel_rfl) (by kernel_rfl) (fun _ _ _ h => h) (Or.inl ⟨by rfl, ?yg0_2⟩) hHeld ?rg0_2
      case yg0_2 =>
        intro wq hSw
        (try dsimp only at hSw)
        first | (go_simp; done) | (go_simp; with_reducible rfl)
      try simp only [Act.put, List.setIfInBounds_toArray, List.set_cons_zero, List.set_cons_succ]
      refine wpAnyH_take (i := 1) (oi := ⟨some 28, _, _, _, _, _⟩) (v := ?vg1_3) rfl (by kernel_rfl) (by kernel_rfl) (by kernel_rfl) (fun _ _ _ h => h) (Or.inl ⟨by rfl, ?yg1_3⟩) hHeld ?rg1_3
      case yg1_3 =>
        intro wq hSw
        (try dsimp only at hSw)
        first | (go_simp; done) | (go_simp; with_reducible rfl)
      try simp only [Act.put, List.setIfInBounds_toArray, List.set_cons_zero, List.set_cons_succ]
      refine wpAnyH_take (i := 2) (oi := ⟨some 29, _, _, _, _, _⟩) (v := ?vg2_4) rfl (by kernel_rfl) (by kernel_rfl) (by kernel_rfl) (fun _ _ _ h => h) (Or.inl ⟨by rfl, ?yg2_4⟩) hHeld ?rg2_4
      case yg2_4 =>
        intro wq hSw
        (try dsimp only at hSw)
        first | (go_simp; done) | (go_simp; with_reducible rfl)
      try simp only [Act.put, List.setIfInBounds_toArray, List.set_cons_zero, List.set_cons_succ]
      refine wpAnyH_take (i := 3) (oi := ⟨some 30, _, _, _, _, _⟩) (v := ?vg3_5) rfl (by kernel_rfl) (by kernel_rfl) (by kernel_rfl) (fun _ _ _ h => h) (Or.inl ⟨by rfl, ?yg3_5⟩) hHeld ?rg3_5
      case yg3_5 =>
        intro wq hSw
        (try dsimp only at hSw)
        first | (go_simp; done) | (go_simp; with_reducible rfl)
      try simp only [Act.put, List.setIfInBounds_toArray, List.set_cons_zero, List.set_cons_succ]
      refine wpAnyH_take (i := 5) (oi := ⟨some 32, _, _, _, _, _⟩) (v := ?vg5_6) rfl (by kernel_rfl) (by kernel_rfl) (by kernel_rfl) (fun _ _ _ h => h) (Or.inl ⟨by rfl, ?yg5_6⟩) hHeld ?rg5_6
      case yg5_6 =>
        intro wq hSw
        (try dsimp only at hSw)
        first | (go_simp; done) | (go_simp; with_reducible rfl)
      try simp only [Act.put, List.setIfInBounds_toArray, List.set_cons_zero, List.set_cons_succ]
      refine wpAnyH_take (i := 6) (oi := ⟨some 33, _, _, _, _, _⟩) (v := ?vg6_7) rfl (by kernel_rfl) (by kernel_rfl) (by kernel_rfl) (fun _ _ _ h => h) (Or.inl ⟨by rfl, ?yg6_7⟩) hHeld ?rg6_7
      case yg6_7 =>
        intro wq hSw
        (try dsimp only at hSw)
        first | (go_simp; done) | (go_simp; with_reducible rfl)
      try simp only [Act.put, List.setIfInBounds_toArray, List.set_cons_zero, List.set_cons_succ]
      refine wpAnyH_take (i := 7) (oi := ⟨some 34, _, _, _, _, _⟩) (v := ?vg7_8) rfl (by kernel_rfl) (by kernel_rfl) (by kernel_rfl) (fun _ _ _ h => h) (Or.inl ⟨by rfl, ?yg7_8⟩) hHeld ?rg7_8
      case yg7_8 =>
        intro wq hSw
        (try dsimp only at hSw)
        have hsa := arr9 b o c wq
        first | (go_simp; done) | (go_simp; with_reducible rfl)
      try simp only [Act.put, List.setIfInBounds_toArray, List.set_cons_zero, List.set_cons_succ]
      refine wpAnyH_ready (rs := [4, 8]) (by kernel_rfl) (by simp) ?_
      refine AllReadyH.cons (o := ⟨some 31, _, _, _, _, _⟩) rfl (fun K hK => ?_) (AllReadyH.cons (o := ⟨some 35, _, _, _, _, _⟩) rfl (fun K hK => ?_) (AllReadyH.nil))
      · have hq := C17.out
        go_simp
        refine hK.out _ _ hHeld (fun _ => ?_)
        clear hK K
        try simp only [Act.put, List.setIfInBounds_toArray, List.set_cons_zero, List.set_cons_succ]
        refine wpAnyH_ready (rs := [8]) (by kernel_rfl) (by simp) ?_
        refine AllReadyH.cons (o := ⟨some 35, _, _, _, _, _⟩) rfl (fun K hK => ?_) (AllReadyH.nil)
        refine wp_load_mid (op := ⟨some 35, _, _, _, _, _⟩) 66 (.tmp 34) rfl b o rfl (cells (pad9 l)) _ RG7.out Try.underlying66 rfl (size9l l) ?_
        refine hK.out _ _ hHeld (fun _ => ?_)
        clear hK K
        try simp only [Act.put, List.setIfInBounds_toArray, List.set_cons_zero, List.set_cons_succ]
        refine wpAnyH_take (i := 9) (oi := ⟨some 36, _, _, _, _, _⟩) (v := (.agg (wrc9 (i, l)).toArray)) rfl (by kernel_rfl) (by kernel_rfl) (by kernel_rfl) (fun _ _ _ h => h) (Or.inl ⟨by rfl, ?yg9_9⟩) hHeld ?rg9_9
        case yg9_9 =>
          intro wq hSw
          exact step_buildW9 (x := .tmp 32) (y := .tmp 35) (i := i) (l := l) rfl rfl rfl
        try simp only [Act.put, List.setIfInBounds_toArray, List.set_cons_zero, List.set_cons_succ]
        refine wpAnyH_ready (rs := [10]) (by kernel_rfl) (by simp) ?_
        refine AllReadyH.cons (o := ⟨some 37, _, _, _, _, _⟩) rfl (fun K hK => ?_) (AllReadyH.nil)
        refine wp_buildSlice (o := ⟨some 37, _, _, _, _, _⟩) 61 68 1 #[(0, .tmp 36)] rfl (wrc9 (i, l)).toArray i0 (.agg (wrc9 (0, [])).toArray) Try.underlying61 hi0 hz0 (by rw [hz1]; decide) (by rw [hz1]; decide) (by rw [hz1]; exact fill9a (p := (i, l)) _ _ rfl) ?_
        have hb := (Below.refl v_1.heap.size v_1).alloc (Nat.le_refl _) (.cells (wrc9 (i, l)).toArray 68)
        have hsl := Sl.made v_1 (wrc9 (i, l)).toArray 68 65 1 (by rw [List.size_toArray, wrc9_len]) (by decide)
        obtain ⟨v_10, hw⟩ : ∃ v, v = v_1.alloc (.cells (wrc9 (i, l)).toArray 68) := ⟨_, rfl⟩
        rw [← hw] at hb hsl ⊢
        clear hw
        have hfN := Fr.of_below (S := Bk7 D Ac) hb
        rw [List.toList_toArray] at hsl
        have sb_11 := Lib.hid hsl
        clear hsl
        have c1_12 := Lib.hid ((Fr.of_below (S := fun _ => False) hb).cell_some C17.out (fun h => h))
        clear C17
        have rn_13 := Lib.hid (RN7.out.later hb)
        clear RN7
        have bx_14 := Lib.hid ((Fr.of_below (S := fun _ => False) hb).row_some BX7.out (fun h => h))
        clear BX7
        clear hb
        have hHeld := hHeld.trans hfN
        have hz_15 := hfN.size
        refine hK.out _ _ hHeld (fun _ => ?_)
        clear hK K hfN
        try simp only [Act.put, List.setIfInBounds_toArray, List.set_cons_zero, List.set_cons_succ]
        refine wpAnyH_ready (rs := [11]) (by kernel_rfl) (by simp) ?_
        refine AllReadyH.cons (o := ⟨some 38, _, _, _, _, _⟩) rfl (fun K hK => ?_) (AllReadyH.nil)
        refine wp_append_rw (o := ⟨some 38, _, _, _, _, _⟩) (.tmp 31) (.tmp 37) 61 61 rfl i0 (.agg (wrc9 (0, [])).toArray) 72 Try.underlying61 hi0 hz0 hz1 hz2 (by rw [show (Value.agg (wrc9 (0, [])).toArray).cells = (wrc9 (0, [])).toArray from rfl, List.size_toArray, wrc9_len]) (by decide) rfl rn_13.out (.slice (some ⟨v_1.heap.size, 0, none⟩) 1 1) 1 (wrc9 (i, l)) rfl (sb_11.out.src Try.underlying61 (by decide) (wrc9_one _)) (by decide) (by unfold maxLen; omega) (by omega) ?_
        intro b7 c7 w7 hrw hfb hor
        have hfN := hfb.mono (fun b hb => (show Bk7 D Ac b from .inr hb))
        have bx7 := Lib.hid (hfb.row_some bx_14.out ND.out)
        have HRW := Lib.hid hrw
        have HOR := Lib.hid hor
        clear hrw hor hfb bx_14
        have hHeld := hHeld.trans hfN
        have hz_16 := hfN.size
        refine hK.out _ _ hHeld (fun _ => ?_)
        clear hK K hfN
        try simp only [Act.put, List.setIfInBounds_toArray, List.set_cons_zero, List.set_cons_succ]
        refine wpAnyH_take (i := 12) (oi := ⟨some 39, _, _, _, _, _⟩) (v := ?vg12_17) rfl (by kernel_rfl) (by kernel_rfl) (by kernel_rfl) (fun _ _ _ h => h) (Or.inl ⟨by rfl, ?yg12_17⟩) hHeld ?rg12_17
        case yg12_17 =>
          intro wq hSw
          (try dsimp only at hSw)
          first | (go_simp; done) | (go_simp; with_reducible rfl)
        try simp only [Act.put, List.setIfInBounds_toArray, List.set_cons_zero, List.set_cons_succ]
        refine wpAnyH_take (i := 13) (oi := ⟨some 40, _, _, _, _, _⟩) (v := ?vg13_18) rfl (by kernel_rfl) (by kernel_rfl) (by kernel_rfl) (fun _ _ _ h => h) (Or.inl ⟨by rfl, ?yg13_18⟩) hHeld ?rg13_18
        case yg13_18 =>
          intro wq hSw
          (try dsimp only at hSw)
          first | (go_simp; done) | (go_simp; with_reducible rfl)
        try simp only [Act.put, List.setIfInBounds_toArray, List.set_cons_zero, List.set_cons_succ]
        refine wpAnyH_ready (rs := [14]) (by kernel_rfl) (by simp) ?_
        refine AllReadyH.cons (o := ⟨none, _, _, _, _, _⟩) rfl (fun K hK => ?_) (AllReadyH.nil)
        have q1 : w7.cell? ⟨D, 1, none⟩ = some (.slice Ac nw cc) := by rw [cell_of_row _ _ _ _ _ _ bx7.out]; rfl
        have u1 : w7.frozen? ⟨D, 1, none⟩ = false := frozen_of_row _ _ _ _ _ bx7.out
        go_simp
        clear q1 u1
        have hfN : Fr (Bk7 D Ac) w7 (w7.setCell ⟨D, 1, none⟩ (.slice (some ⟨b7, 0, none⟩) (nw + 1) c7)) := (Fr.refl (Bk7 D Ac) _).setCell (p := ⟨D, 1, none⟩) (.inr (.inl rfl)) _
        have hbx := heap_setCell_same w7 D 1 _ _ (.slice (some ⟨b7, 0, none⟩) (nw + 1) c7) bx7.out
        have hrw8 := HRW.out.fr ((Fr.refl (fun b => b = D) _).setCell (p := ⟨D, 1, none⟩) (.inr rfl) (.slice (some ⟨b7, 0, none⟩) (nw + 1) c7)) (by
          show ¬ b7 = D
          rcases HOR.out with h | h
          · exact fun e => ND.out ⟨0, by rw [← e]; exact h⟩
          · have := HLT.out; have := (show w6.heap.size ≤ v_10.heap.size from by omega); omega)
        obtain ⟨w8, hw⟩ : ∃ v, v = w7.setCell ⟨D, 1, none⟩ (.slice (some ⟨b7, 0, none⟩) (nw + 1) c7) := ⟨_, rfl⟩
        rw [← hw] at hfN hbx hrw8 ⊢
        clear hw
        have BX8 := Lib.hid hbx
        have RW8 := Lib.hid hrw8
        have HO8 := Lib.hid (show Ac = some ⟨b7, 0, none⟩ ∨ w.heap.size ≤ b7 from HOR.out.imp id (fun e => by have := HW6.out; omega))
        clear hbx hrw8 bx7 HRW
        have hHeld := hHeld.trans hfN
        have hz_19 := hfN.size
        refine hK.out _ _ hHeld (fun _ => ?_)
        clear hK K hfN
        try simp only [Act.put]
        refine wpAnyH_done (by kernel_rfl) ?_ _
        have HH := Lib.hid hHeld
        clear hHeld
        go_wp2_with fail
        go_ret
        exact wrote9 HR.out Hi.out HLen.out HF6.out HL6.out HH.out BX8.out RW8.out HO8.out HW6.out
      · refine wp_load_mid (op := ⟨some 35, _, _, _, _, _⟩) 66 (.tmp 34) rfl b o rfl (cells (pad9 l)) _ RG7.out Try.underlying66 rfl (size9l l) ?_
        refine hK.out _ _ hHeld (fun _ => ?_)
        clear hK K
        try simp only [Act.put, List.setIfInBounds_toArray, List.set_cons_zero, List.set_cons_succ]
        refine wpAnyH_take (i := 9) (oi := ⟨some 36, _, _, _, _, _⟩) (v := (.agg (wrc9 (i, l)).toArray)) rfl (by kernel_rfl) (by kernel_rfl) (by kernel_rfl) (fun _ _ _ h => h) (Or.inl ⟨by rfl, ?yg9_20⟩) hHeld ?rg9_20
        case yg9_20 =>
          intro wq hSw
          exact step_buildW9 (x := .tmp 32) (y := .tmp 35) (i := i) (l := l) rfl rfl rfl
        try simp only [Act.put, List.setIfInBounds_toArray, List.set_cons_zero, List.set_cons_succ]
        refine wpAnyH_ready (rs := [4, 10]) (by kernel_rfl) (by simp) ?_
        refine AllReadyH.cons (o := ⟨some 31, _, _, _, _, _⟩) rfl (fun K hK => ?_) (AllReadyH.cons (o := ⟨some 37, _, _, _, _, _⟩) rfl (fun K hK => ?_) (AllReadyH.nil))
        · have hq := C17.out
          go_simp
          refine hK.out _ _ hHeld (fun _ => ?_)
          clear hK K
          try simp only [Act.put, List.setIfInBounds_toArray, List.set_cons_zero, List.set_cons_succ]
          refine wpAnyH_ready (rs := [10]) (by kernel_rfl) (by simp) ?_
          refine AllReadyH.cons (o := ⟨some 37, _, _, _, _, _⟩) rfl (fun K hK => ?_) (AllReadyH.nil)
          refine wp_buildSlice (o := ⟨some 37, _, _, _, _, _⟩) 61 68 1 #[(0, .tmp 36)] rfl (wrc9 (i, l)).toArray i0 (.agg (wrc9 (0, [])).toArray) Try.underlying61 hi0 hz0 (by rw [hz1]; decide) (by rw [hz1]; decide) (by rw [hz1]; exact fill9a (p := (i, l)) _ _ rfl) ?_
          have hb := (Below.refl v_1.heap.size v_1).alloc (Nat.le_refl _) (.cells (wrc9 (i, l)).toArray 68)
          have hsl := Sl.made v_1 (wrc9 (i, l)).toArray 68 65 1 (by rw [List.size_toArray, wrc9_len]) (by decide)
          obtain ⟨v_21, hw⟩ : ∃ v, v = v_1.alloc (.cells (wrc9 (i, l)).toArray 68) := ⟨_, rfl⟩
          rw [← hw] at hb hsl ⊢
          clear hw
          have hfN := Fr.of_below (S := Bk7 D Ac) hb
          rw [List.toList_toArray] at hsl
          have sb_22 := Lib.hid hsl
          clear hsl
          have c1_23 := Lib.hid ((Fr.of_below (S := fun _ => False) hb).cell_some C17.out (fun h => h))
          clear C17
          have rn_24 := Lib.hid (RN7.out.later hb)
          clear RN7
          have bx_25 := Lib.hid ((Fr.of_below (S := fun _ => False) hb).row_some BX7.out (fun h => h))
          clear BX7
          clear hb
          have hHeld := hHeld.trans hfN
          have hz_26 := hfN.size
          refine hK.out _ _ hHeld (fun _ => ?_)
          clear hK K hfN
          try simp only [Act.put, List.setIfInBounds_toArray, List.set_cons_zero, List.set_cons_succ]
          refine wpAnyH_ready (rs := [11]) (by kernel_rfl) (by simp) ?_
          refine AllReadyH.cons (o := ⟨some 38, _, _, _, _, _⟩) rfl (fun K hK => ?_) (AllReadyH.nil)
          refine wp_append_rw (o := ⟨some 38, _, _, _, _, _⟩) (.tmp 31) (.tmp 37) 61 61 rfl i0 (.agg (wrc9 (0, [])).toArray) 72 Try.underlying61 hi0 hz0 hz1 hz2 (by rw [show (Value.agg (wrc9 (0, [])).toArray).cells = (wrc9 (0, [])).toArray from rfl, List.size_toArray, wrc9_len]) (by decide) rfl rn_24.out (.slice (some ⟨v_1.heap.size, 0, none⟩) 1 1) 1 (wrc9 (i, l)) rfl (sb_22.out.src Try.underlying61 (by decide) (wrc9_one _)) (by decide) (by unfold maxLen; omega) (by omega) ?_
          intro b7 c7 w7 hrw hfb hor
          have hfN := hfb.mono (fun b hb => (show Bk7 D Ac b from .inr hb))
          have bx7 := Lib.hid (hfb.row_some bx_25.out ND.out)
          have HRW := Lib.hid hrw
          have HOR := Lib.hid hor
          clear hrw hor hfb bx_25
          have hHeld := hHeld.trans hfN
          have hz_27 := hfN.size
          refine hK.out _ _ hHeld (fun _ => ?_)
          clear hK K hfN
          try simp only [Act.put, List.setIfInBounds_toArray, List.set_cons_zero, List.set_cons_succ]
          refine wpAnyH_take (i := 12) (oi := ⟨some 39, _, _, _, _, _⟩) (v := ?vg12_28) rfl (by kernel_rfl) (by kernel_rfl) (by kernel_rfl) (fun _ _ _ h => h) (Or.inl ⟨by rfl, ?yg12_28⟩) hHeld ?rg12_28
          case yg12_28 =>
            intro wq hSw
            (try dsimp only at hSw)
            first | (go_simp; done) | (go_simp; with_reducible rfl)
          try simp only [Act.put, List.setIfInBounds_toArray, List.set_cons_zero, List.set_cons_succ]
          refine wpAnyH_take (i := 13) (oi := ⟨some 40, _, _, _, _, _⟩) (v := ?vg13_29) rfl (by kernel_rfl) (by kernel_rfl) (by kernel_rfl) (fun _ _ _ h => h) (Or.inl ⟨by rfl, ?yg13_29⟩) hHeld ?rg13_29
          case yg13_29 =>
            intro wq hSw
            (try dsimp only at hSw)
            first | (go_simp; done) | (go_simp; with_reducible rfl)
          try simp only [Act.put, List.setIfInBounds_toArray, List.set_cons_zero, List.set_cons_succ]
          refine wpAnyH_ready (rs := [14]) (by kernel_rfl) (by simp) ?_
          refine AllReadyH.cons (o := ⟨none, _, _, _, _, _⟩) rfl (fun K hK => ?_) (AllReadyH.nil)
          have q1 : w7.cell? ⟨D, 1, none⟩ = some (.slice Ac nw cc) := by rw [cell_of_row _ _ _ _ _ _ bx7.out]; rfl
          have u1 : w7.frozen? ⟨D, 1, none⟩ = false := frozen_of_row _ _ _ _ _ bx7.out
          go_simp
          clear q1 u1
          have hfN : Fr (Bk7 D Ac) w7 (w7.setCell ⟨D, 1, none⟩ (.slice (some ⟨b7, 0, none⟩) (nw + 1) c7)) := (Fr.refl (Bk7 D Ac) _).setCell (p := ⟨D, 1, none⟩) (.inr (.inl rfl)) _
          have hbx := heap_setCell_same w7 D 1 _ _ (.slice (some ⟨b7, 0, none⟩) (nw + 1) c7) bx7.out
          have hrw8 := HRW.out.fr ((Fr.refl (fun b => b = D) _).setCell (p := ⟨D, 1, none⟩) (.inr rfl) (.slice (some ⟨b7, 0, none⟩) (nw + 1) c7)) (by
            show ¬ b7 = D
            rcases HOR.out with h | h
            · exact fun e => ND.out ⟨0, by rw [← e]; exact h⟩
            · have := HLT.out; have := (show w6.heap.size ≤ v_21.heap.size from by omega); omega)
          obtain ⟨w8, hw⟩ : ∃ v, v = w7.setCell ⟨D, 1, none⟩ (.slice (some ⟨b7, 0, none⟩) (nw + 1) c7) := ⟨_, rfl⟩
          rw [← hw] at hfN hbx hrw8 ⊢
          clear hw
          have BX8 := Lib.hid hbx
          have RW8 := Lib.hid hrw8
          have HO8 := Lib.hid (show Ac = some ⟨b7, 0, none⟩ ∨ w.heap.size ≤ b7 from HOR.out.imp id (fun e => by have := HW6.out; omega))
          clear hbx hrw8 bx7 HRW
          have hHeld := hHeld.trans hfN
          have hz_30 := hfN.size
          refine hK.out _ _ hHeld (fun _ => ?_)
          clear hK K hfN
          try simp only [Act.put]
          refine wpAnyH_done (by kernel_rfl) ?_ _
          have HH := Lib.hid hHeld
          clear hHeld
          go_wp2_with fail
          go_ret
          exact wrote9 HR.out Hi.out HLen.out HF6.out HL6.out HH.out BX8.out RW8.out HO8.out HW6.out
        · refine wp_buildSlice (o := ⟨some 37, _, _, _, _, _⟩) 61 68 1 #[(0, .tmp 36)] rfl (wrc9 (i, l)).toArray i0 (.agg (wrc9 (0, [])).toArray) Try.underlying61 hi0 hz0 (by rw [hz1]; decide) (by rw [hz1]; decide) (by rw [hz1]; exact fill9a (p := (i, l)) _ _ rfl) ?_
          have hb := (Below.refl v_1.heap.size v_1).alloc (Nat.le_refl _) (.cells (wrc9 (i, l)).toArray 68)
          have hsl := Sl.made v_1 (wrc9 (i, l)).toArray 68 65 1 (by rw [List.size_toArray, wrc9_len]) (by decide)
          obtain ⟨v_31, hw⟩ : ∃ v, v = v_1.alloc (.cells (wrc9 (i, l)).toArray 68) := ⟨_, rfl⟩
          rw [← hw] at hb hsl ⊢
          clear hw
          have hfN := Fr.of_below (S := Bk7 D Ac) hb
          rw [List.toList_toArray] at hsl
          have sb_32 := Lib.hid hsl
          clear hsl
          have c1_33 := Lib.hid ((Fr.of_below (S := fun _ => False) hb).cell_some C17.out (fun h => h))
          clear C17
          have rn_34 := Lib.hid (RN7.out.later hb)
          clear RN7
          have bx_35 := Lib.hid ((Fr.of_below (S := fun _ => False) hb).row_some BX7.out (fun h => h))
          clear BX7
          clear hb
          have hHeld := hHeld.trans hfN
          have hz_36 := hfN.size
          refine hK.out _ _ hHeld (fun _ => ?_)
          clear hK K hfN
          try simp only [Act.put, List.setIfInBounds_toArray, List.set_cons_zero, List.set_cons_succ]
          refine wpAnyH_ready (rs := [4]) (by kernel_rfl) (by simp) ?_
          refine AllReadyH.cons (o := ⟨some 31, _, _, _, _, _⟩) rfl (fun K hK => ?_) (AllReadyH.nil)
          have hq := c1_33.out
          go_simp
          refine hK.out _ _ hHeld (fun _ => ?_)
          clear hK K
          try simp only [Act.put, List.setIfInBounds_toArray, List.set_cons_zero, List.set_cons_succ]
          refine wpAnyH_ready (rs := [11]) (by kernel_rfl) (by simp) ?_
          refine AllReadyH.cons (o := ⟨some 38, _, _, _, _, _⟩) rfl (fun K hK => ?_) (AllReadyH.nil)
          refine wp_append_rw (o := ⟨some 38, _, _, _, _, _⟩) (.tmp 31) (.tmp 37) 61 61 rfl i0 (.agg (wrc9 (0, [])).toArray) 72 Try.underlying61 hi0 hz0 hz1 hz2 (by rw [show (Value.agg (wrc9 (0, [])).toArray).cells = (wrc9 (0, [])).toArray from rfl, List.size_toArray, wrc9_len]) (by decide) rfl rn_34.out (.slice (some ⟨v_1.heap.size, 0, none⟩) 1 1) 1 (wrc9 (i, l)) rfl (sb_32.out.src Try.underlying61 (by decide) (wrc9_one _)) (by decide) (by unfold maxLen; omega) (by omega) ?_
          intro b7 c7 w7 hrw hfb hor
          have hfN := hfb.mono (fun b hb => (show Bk7 D Ac b from .inr hb))
          have bx7 := Lib.hid (hfb.row_some bx_35.out ND.out)
          have HRW := Lib.hid hrw
          have HOR := Lib.hid hor
          clear hrw hor hfb bx_35
          have hHeld := hHeld.trans hfN
          have hz_37 := hfN.size
          refine hK.out _ _ hHeld (fun _ => ?_)
          clear hK K hfN
          try simp only [Act.put, List.setIfInBounds_toArray, List.set_cons_zero, List.set_cons_succ]
          refine wpAnyH_take (i := 12) (oi := ⟨some 39, _, _, _, _, _⟩) (v := ?vg12_38) rfl (by kernel_rfl) (by kernel_rfl) (by kernel_rfl) (fun _ _ _ h => h) (Or.inl ⟨by rfl, ?yg12_38⟩) hHeld ?rg12_38
          case yg12_38 =>
            intro wq hSw
            (try dsimp only at hSw)
            first | (go_simp; done) | (go_simp; with_reducible rfl)
          try simp only [Act.put, List.setIfInBounds_toArray, List.set_cons_zero, List.set_cons_succ]
          refine wpAnyH_take (i := 13) (oi := ⟨some 40, _, _, _, _, _⟩) (v := ?vg13_39) rfl (by kernel_rfl) (by kernel_rfl) (by kernel_rfl) (fun _ _ _ h => h) (Or.inl ⟨by rfl, ?yg13_39⟩) hHeld ?rg13_39
          case yg13_39 =>
            intro wq hSw
            (try dsimp only at hSw)
            first | (go_simp; done) | (go_simp; with_reducible rfl)
          try simp only [Act.put, List.setIfInBounds_toArray, List.set_cons_zero, List.set_cons_succ]
          refine wpAnyH_ready (rs := [14]) (by kernel_rfl) (by simp) ?_
          refine AllReadyH.cons (o := ⟨none, _, _, _, _, _⟩) rfl (fun K hK => ?_) (AllReadyH.nil)
          have q1 : w7.cell? ⟨D, 1, none⟩ = some (.slice Ac nw cc) := by rw [cell_of_row _ _ _ _ _ _ bx7.out]; rfl
          have u1 : w7.frozen? ⟨D, 1, none⟩ = false := frozen_of_row _ _ _ _ _ bx7.out
          go_simp
          clear q1 u1
          have hfN : Fr (Bk7 D Ac) w7 (w7.setCell ⟨D, 1, none⟩ (.slice (some ⟨b7, 0, none⟩) (nw + 1) c7)) := (Fr.refl (Bk7 D Ac) _).setCell (p := ⟨D, 1, none⟩) (.inr (.inl rfl)) _
          have hbx := heap_setCell_same w7 D 1 _ _ (.slice (some ⟨b7, 0, none⟩) (nw + 1) c7) bx7.out
          have hrw8 := HRW.out.fr ((Fr.refl (fun b => b = D) _).setCell (p := ⟨D, 1, none⟩) (.inr rfl) (.slice (some ⟨b7, 0, none⟩) (nw + 1) c7)) (by
            show ¬ b7 = D
            rcases HOR.out with h | h
            · exact fun e => ND.out ⟨0, by rw [← e]; exact h⟩
            · have := HLT.out; have := (show w6.heap.size ≤ v_31.heap.size from by omega); omega)
          obtain ⟨w8, hw⟩ : ∃ v, v = w7.setCell ⟨D, 1, none⟩ (.slice (some ⟨b7, 0, none⟩) (nw + 1) c7) := ⟨_, rfl⟩
          rw [← hw] at hfN hbx hrw8 ⊢
          clear hw
          have BX8 := Lib.hid hbx
          have RW8 := Lib.hid hrw8
          have HO8 := Lib.hid (show Ac = some ⟨b7, 0, none⟩ ∨ w.heap.size ≤ b7 from HOR.out.imp id (fun e => by have := HW6.out; omega))
          clear hbx hrw8 bx7 HRW
          have hHeld := hHeld.trans hfN
          have hz_40 := hfN.size
          refine hK.out _ _ hHeld (fun _ => ?_)
          clear hK K hfN
          try simp only [Act.put]
          refine wpAnyH_done (by kernel_rfl) ?_ _
          have HH := Lib.hid hHeld
          clear hHeld
          go_wp2_with fail
          go_ret
          exact wrote9 HR.out Hi.out HLen.out HF6.out HL6.out HH.out BX8.out RW8.out HO8.out HW6.out
    · have e1 : x.writeX z l = 2 := by rw [Dv.writeX, if_neg (by rw [hx.1]; decide), if_neg (fun hh => h64 (by omega))]
      have e2 : x.write z l = x := by rw [Dv.write, if_neg (by rw [hx.1]; decide), if_neg (fun hh => h64 (by omega))]
      rw [e1, e2]
      have hni : ¬ (n : Int) = 64 := by omega
      clear e1 e2
      go_enter Try.func9, Try.ntmps9
      go_wp2_with fail
      refine hm.mono ?_; rintro e w1 ⟨rfl, hw1⟩
      obtain rfl : w = w1 := hw1.symm
      go_wp2_with fail
      go_ret
      exact ⟨rfl, Fr.refl _ _, cc, Ac, ds, h, fun _ hb => .inl hb⟩
  · have e1 := Dv.refX_no hx
    have e2 : x.writeX z l = x.refX z := by
      rw [Dv.writeX, Dv.refX]
      split
      · rfl
      · rename_i hg
        have hh : ¬ x.has z := fun hh => hx ⟨by simpa using hg, hh⟩
        rw [if_neg hh, if_neg (fun q => hh q.1)]
    have e3 : x.write z l = x := by
      rw [Dv.write]
      split
      · rfl
      · rename_i hg
        rw [if_neg (fun q => hx ⟨by simpa using hg, q.1⟩)]
    rw [e2, e3]
    obtain ⟨r, hr⟩ : ∃ r, r = x.refX z := ⟨_, rfl⟩
    rw [← hr] at e1 hm ⊢
    clear hr e2 e3
    go_enter Try.func9, Try.ntmps9
    go_wp2_with fail
    refine hm.mono ?_; rintro e w1 ⟨rfl, hw1⟩
    obtain rfl : w = w1 := hw1.symm
    go_wp2_with fail
    go_ret
    exact ⟨rfl, Fr.refl _ _, cc, Ac, ds, h, fun _ hb => .inl hb⟩
end
end Go.Proofs.Ytmlmlmlbdjhfhaa
