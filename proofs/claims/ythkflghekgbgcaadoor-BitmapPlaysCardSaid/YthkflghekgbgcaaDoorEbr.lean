/-
  The walk of BitmapPlays. Condition: the table reads as the row lists it ('Tz').
-/
import Derived.Test.YthkflghekgbgcaaDoorEbq
import Derived.Test.YthkflghekgbgcaaDoorEbs
namespace Go.Proofs.YthkflghekgbgcaaDoor
open Go.RowKit Go.Proofs
set_option linter.unusedVariables false

theorem size_act12 : (Tryd.prog.info? 29).map (·.size) = some 3 := by kernel_rfl
theorem ActB.c1 {w : World} {b : Nat} {k a m : Int} (h : ActB w b k a m) : w.cell? ⟨b, 1, none⟩ = some (.int .i64 a) := by rw [cell_of_row _ _ _ _ _ _ h]; rfl
theorem ActB.c2 {w : World} {b : Nat} {k a m : Int} (h : ActB w b k a m) : w.cell? ⟨b, 2, none⟩ = some (.int .i64 m) := by rw [cell_of_row _ _ _ _ _ _ h]; rfl
theorem step_loadA12 {ρ : Operand → Value} {o : Oper} {x : Operand} {w : World} {b : Nat} {k a m : Int} (ho : o.op = .load 29 x) (hx : ρ x = .pointer (some ⟨b, 0, none⟩)) (h : ActB w b k a m) : (execOp ρ o).run Tryd.prog w = .ok (.value (.agg #[.int .i64 k, .int .i64 a, .int .i64 m])) w := by
  unfold execOp
  simp only [ho, hx, Instr.loadAt, Instr.sureAddr, Sem.run_bind, Sem.run_pure, Result.andThen_ok, run_loadVar_row w b _ 29 _ (0, 0) _ h Tryd.underlying29 rfl size_act12]

set_option maxRecDepth 100000 in
set_option maxHeartbeats 6400000 in
theorem bitmapPlays_walk (x0 : Int) (A1 : Option Addr) (p1 : Nat) (x1 : List Ac12) (W : World) (b0 : -9223372036854775808 ≤ x0 ∧ x0 < 9223372036854775808) (h1 : Acts12 W A1 x1.length p1 x1) (hN : Tz W) :
    Calls Tryd.prog 3 #[.int .i64 x0, .slice A1 x1.length p1] W (SaysTrue W) := by
  obtain ⟨q, hq⟩ : ∃ q, q = x1.length := ⟨_, rfl⟩
  have h1' := h1
  rw [← hq] at h1' ⊢
  have H1 := Lib.hid h1'
  have Hq := Lib.hid hq
  have HN := Lib.hid hN
  have htk := tk12_any W hN
  clear h1 h1' hq hN
  by_cases c1 : 300 < x0 ∧ x0 ≤ 65536
  case pos =>
    obtain ⟨c11, c12⟩ := c1
    go_enter Tryd.func3, Tryd.ntmps3
    go_wp2_with fail
    refine htk.mono ?_; clear htk; rintro e w1 ⟨rfl, hb⟩
    go_wp2_with fail
    go_ret
    exact ⟨rfl, hb⟩
  by_cases c3 : (80 : Int) < (q : Int)
  case pos =>
    by_cases c11 : 300 < x0
    · have c12 : ¬ x0 ≤ 65536 := fun e => c1 ⟨c11, e⟩
      clear c1
      go_enter Tryd.func3, Tryd.ntmps3
      go_wp2_with fail
      refine htk.mono ?_; clear htk; rintro e w1 ⟨rfl, hb⟩
      go_wp2_with fail
      go_ret
      exact ⟨rfl, hb⟩
    · clear c1
      go_enter Tryd.func3, Tryd.ntmps3
      go_wp2_with fail
      refine htk.mono ?_; clear htk; rintro e w1 ⟨rfl, hb⟩
      go_wp2_with fail
      go_ret
      exact ⟨rfl, hb⟩
  by_cases c2 : 0 ≤ x0 ∧ x0 ≤ 65536
  case neg =>
    have hn1 := new_no x0 c2 W
    have hn2 := rmpnew_no x0 c2 W
    by_cases c11 : 300 < x0
    · have c12 : ¬ x0 ≤ 65536 := fun e => c1 ⟨c11, e⟩
      clear c1 c2
      go_enter Tryd.func3, Tryd.ntmps3
      go_wp2_with fail
      refine hn1.mono ?_; clear hn1; rintro e w1 ⟨rfl, hw1⟩
      obtain rfl : W = w1 := hw1.symm
      go_wp2_with fail
      refine hn2.mono ?_; clear hn2; rintro e w1 ⟨rfl, hw1⟩
      obtain rfl : W = w1 := hw1.symm
      go_wp2_with fail
      refine htk.mono ?_; clear htk; rintro e w1 ⟨rfl, hb⟩
      go_wp2_with fail
      go_ret
      exact ⟨rfl, hb⟩
    · clear c1 c2
      go_enter Tryd.func3, Tryd.ntmps3
      go_wp2_with fail
      refine hn1.mono ?_; clear hn1; rintro e w1 ⟨rfl, hw1⟩
      obtain rfl : W = w1 := hw1.symm
      go_wp2_with fail
      refine hn2.mono ?_; clear hn2; rintro e w1 ⟨rfl, hw1⟩
      obtain rfl : W = w1 := hw1.symm
      go_wp2_with fail
      refine htk.mono ?_; clear htk; rintro e w1 ⟨rfl, hb⟩
      go_wp2_with fail
      go_ret
      exact ⟨rfl, hb⟩
  clear htk
  obtain ⟨n, rfl⟩ : ∃ n : Nat, x0 = (n : Int) := ⟨x0.toNat, by omega⟩
  have hn300 : n ≤ 300 := by
    rcases Nat.lt_or_ge 300 n with h | h
    · exact absurd ⟨by omega, c2.2⟩ c1
    · exact h
  have c11 : ¬ (300 : Int) < (n : Int) := by omega
  have hnew := new_yes n (by omega) W
  clear c1 c2
  go_enter Tryd.func3, Tryd.ntmps3
  go_wp2_with fail
  refine hnew.mono ?_; clear hnew; rintro e w1 ⟨M0, B0, rfl, hp1, hb1, hM1, hB1⟩
  have hrn := rmpnew_yes n (by omega) w1
  have P1 := Lib.hid hp1
  have B1 := Lib.hid hb1
  have HB1 := Lib.hid hB1
  clear hp1 hb1 hM1 hB1
  go_wp2_with fail
  refine hrn.mono ?_; clear hrn; rintro e w2 ⟨X, rfl, hx2, hb2, hX2⟩
  have PY2 := Lib.hid (show Py12 W.heap.size w2 M0 B0 X n (fun _ => false) none from ⟨P1.out.later hb2, hx2, by have := P1.out.ltM; omega, by have := P1.out.ltB; omega, fun _ b o e => (by cases e), HB1.out, by have := B1.out.size; omega⟩)
  have B2 := Lib.hid (B1.out.trans (hb2.mono B1.out.size))
  clear hx2 hb2 hX2
  go_wp2_with fail
  go_loopw [5, 7] (fun mv i wr => ∃ (j M B : Nat) (f : Nat → Bool) (A : Option Addr), j ≤ q ∧ i = .int .i64 (j : Int) ∧ mv = .pointer (some ⟨M, 0, none⟩) ∧ Py12 W.heap.size wr M B X n f A ∧ Below W.heap.size W wr) (fun _ i _ => q - (intOf i).toNat)
  case atStart => exact ⟨0, M0, B0, _, none, by omega, rfl, rfl, PY2.out, B2.out⟩
  case round =>
    obtain ⟨j, M, B, f, A, hj, rfl, rfl, hp, hb⟩ := hrel
    have P := Lib.hid hp
    have Bb := Lib.hid hb
    clear hp hb
    by_cases hlt : j < q
    · have hjl : j < x1.length := by rw [← Hq.out]; exact hlt
      obtain ⟨b, o, rfl, hcs, hok⟩ := (H1.out.below Bb.out).cell j _ (List.getElem?_eq_getElem hjl)
      obtain ⟨x, hx⟩ : ∃ x, x = x1[j]'hjl := ⟨_, rfl⟩
      rw [← hx] at hcs hok
      obtain ⟨kd, at_, many⟩ := x
      have q0 := hcs 0 _ rfl
      have q1 := hcs 1 _ rfl
      have q2 := hcs 2 _ rfl
      rw [Nat.add_zero] at q0
      have hat : at_ < 9223372036854775808 := hok.at2
      have hmy1 : -9223372036854775808 ≤ many := hok.many1
      have hmy : many < 9223372036854775808 := hok.many2
      obtain ⟨wb, hwb⟩ : ∃ y, y = wr.alloc (.cells #[.int .i64 kd, .int .i64 at_, .int .i64 many] 29) := ⟨_, rfl⟩
      have hbb : Below wr.heap.size wr wb := by rw [hwb]; exact (Below.refl _ _).alloc (Nat.le_refl _) _
      have hab : ActB wb wr.heap.size kd at_ many := by rw [hwb]; exact heap_alloc_new wr _
      have Bbb := Lib.hid (Bb.out.trans (hbb.mono Bb.out.size))
      have HAb := Lib.hid hab
      have Pb := Lib.hid (P.out.later hbb)
      have HNE := Lib.hid (show wr.heap.size ≠ B ∧ wr.heap.size ≠ X by have := P.out.p.ltB; have := P.out.x.lt; omega)
      have hji : (j : Int) < (q : Int) := by omega
      clear hcs hok hx hbb hab
      by_cases hk4 : kd = 4
      · subst hk4
        have hcp := copy_any M B n f wb Pb.out.p
        go_wp2_with fail
        rw [← hwb]
        clear hwb
        refine hcp.mono ?_; clear hcp; rintro e wl ⟨M5, B5, rfl, hp5, hb5, hM5, hB5⟩
        have PL := Lib.hid (Pb.out.copied hp5 hb5 hM5 hB5 Bbb.out.size)
        have BL := Lib.hid (Bbb.out.trans (hb5.mono Bbb.out.size))
        have HA := Lib.hid (show ActB wl wr.heap.size 4 at_ many from (hb5.block _ (block_lt HAb.out)).trans HAb.out)
        have N5 := Lib.hid (show ¬ (wr.heap.size = B5 ∨ wr.heap.size = X) by have := HNE.out; have := block_lt HAb.out; omega)
        clear hp5 hb5 hM5 hB5 q0 q1 q2
        go_wp2_with fail
        refine wp_region_held_drew (S := fun w' => Fr (fun k => k = B5 ∨ k = X) wl.drew w') (by kernel_rfl) (Fr.refl _ _) (fun hHeld => ?_)
        clear hHeld
        refine wpAnyH_take (i := 0) (oi := ⟨some 47, _, _, _, _, _⟩) (v := ?vc0) rfl (by kernel_rfl) (by kernel_rfl) (by kernel_rfl) (fun _ _ _ h => h) (Or.inl ⟨by rfl, ?yc0⟩) (Fr.refl _ _) ?rc0
        case yc0 =>
          intro wq hSw
          (try dsimp only at hSw)
          first | (go_simp; done) | (go_simp; with_reducible rfl)
        try simp only [Act.put, List.setIfInBounds_toArray, List.set_cons_zero, List.set_cons_succ]
        refine wpAnyH_take (i := 1) (oi := ⟨some 48, _, _, _, _, _⟩) (v := ?vc1) rfl (by kernel_rfl) (by kernel_rfl) (by kernel_rfl) (fun _ _ _ h => h) (Or.inl ⟨by rfl, ?yc1⟩) (Fr.refl _ _) ?rc1
        case yc1 =>
          intro wq hSw
          (try dsimp only at hSw)
          first | (go_simp; done) | (go_simp; with_reducible rfl)
        try simp only [Act.put, List.setIfInBounds_toArray, List.set_cons_zero, List.set_cons_succ]
        refine wpAnyH_take (i := 2) (oi := ⟨some 49, _, _, _, _, _⟩) (v := (.agg #[.int .i64 4, .int .i64 at_, .int .i64 many])) rfl (by kernel_rfl) (by kernel_rfl) (by kernel_rfl) (fun _ _ _ h => h) (Or.inl ⟨by rfl, ?yc2⟩) (Fr.refl _ _) ?rc2
        case yc2 =>
          intro wq hSw
          exact step_loadA12 (x := .tmp 8) rfl rfl (hSw.row_some HA.out N5.out)
        try simp only [Act.put, List.setIfInBounds_toArray, List.set_cons_zero, List.set_cons_succ]
        refine wpAnyH_ready (rs := [3]) (by kernel_rfl) (by simp) ?_
        refine AllReadyH.cons (o := ⟨some 50, _, _, _, _, _⟩) rfl (fun K hK => ?_) AllReadyH.nil
        go_simp
        refine (act_any W.heap.size M5 B5 X n f A 4 at_ many hmy wl.drew (PL.out.later (Below.drew (Below.refl _ _))) (HN.out.keep (BL.out.trans ((Below.drew (Below.refl _ _)).mono BL.out.size)))).mono ?_; rintro e wa ⟨rfl, f2, A2, hp2, hf2⟩
        have hfr : Fr (fun k => k = B5 ∨ k = X) wl.drew wa := hf2
        have Pwa := Lib.hid hp2
        have Bwa := Lib.hid (show Below W.heap.size W wa from (BL.out.trans ((Below.drew (Below.refl _ _)).mono BL.out.size)).trans (hf2.below2 BL.out.size hp2.lb hp2.lx))
        have Nwa := Lib.hid (HN.out.keep Bwa.out)
        have HA := Lib.hid (show ActB wa wr.heap.size 4 at_ many from hf2.row_some HA.out N5.out)
        obtain ⟨y1, hy1⟩ : ∃ y, y = (inB n at_ && f2 at_.toNat) := ⟨_, rfl⟩
        obtain ⟨c1, hc1⟩ : ∃ y, y = cntL n f2 := ⟨_, rfl⟩
        obtain ⟨z1, hz1⟩ : ∃ y, y = headZ (plc n at_.toNat f2 false) := ⟨_, rfl⟩
        obtain ⟨r1, hr1⟩ : ∃ y, y = runD12 n f2 at_ many := ⟨_, rfl⟩
        obtain ⟨l1, hl1⟩ : ∃ y, y = leastD n f2 many := ⟨_, rfl⟩
        obtain ⟨q1, hq1⟩ : ∃ y, y = l1.length := ⟨_, rfl⟩
        have Hy1 := Lib.hid hy1
        have Hc1 := Lib.hid hc1
        have Hz1 := Lib.hid hz1
        have Hr1 := Lib.hid hr1
        have Hl1 := Lib.hid hl1
        have Hq1 := Lib.hid hq1
        have hcX : ∃ cx, wa.cell? ⟨X, 1, none⟩ = some (.slice A2 c1 cx) := by
          obtain ⟨cx, h1, _⟩ := hp2.x.ex
          rw [← hc1] at h1
          exact ⟨cx, by rw [cell_of_row _ _ _ _ _ _ h1]; rfl⟩
        obtain ⟨cx, hcx⟩ := hcX
        have CX := Lib.hid hcx
        clear hp2 hf2 hy1 hc1 hz1 hr1 hl1 hq1 hcx
        go_wp2_with fail
        refine hK.out _ _ hfr (fun hHeld => ?_)
        clear hK K hHeld
        try simp only [Act.put, List.setIfInBounds_toArray, List.set_cons_zero, List.set_cons_succ]
        refine wpAnyH_re (S' := fun w' => Fr (fun _ => False) wa w') (fun w' h => hfr.trans (h.mono (fun _ h => h.elim))) ?_
        clear hfr
        refine wpAnyH_take (i := 4) (oi := ⟨some 51, _, _, _, _, _⟩) (v := ?vc4) rfl (by kernel_rfl) (by kernel_rfl) (by kernel_rfl) (fun _ _ _ h => h) (Or.inl ⟨by rfl, ?yc4⟩) (Fr.refl _ _) ?rc4
        case yc4 =>
          intro wq hSw
          (try dsimp only at hSw)
          first | (go_simp; done) | (go_simp; with_reducible rfl)
        try simp only [Act.put, List.setIfInBounds_toArray, List.set_cons_zero, List.set_cons_succ]
        refine wpAnyH_take (i := 5) (oi := ⟨some 52, _, _, _, _, _⟩) (v := ?vc5) rfl (by kernel_rfl) (by kernel_rfl) (by kernel_rfl) (fun _ _ _ h => h) (Or.inl ⟨by rfl, ?yc5⟩) (Fr.refl _ _) ?rc5
        case yc5 =>
          intro wq hSw
          (try dsimp only at hSw)
          first | (go_simp; done) | (go_simp; with_reducible rfl)
        try simp only [Act.put, List.setIfInBounds_toArray, List.set_cons_zero, List.set_cons_succ]
        refine wpAnyH_take (i := 6) (oi := ⟨some 53, _, _, _, _, _⟩) (v := ?vc6) rfl (by kernel_rfl) (by kernel_rfl) (by kernel_rfl) (fun _ _ _ h => h) (Or.inl ⟨by rfl, ?yc6⟩) (Fr.refl _ _) ?rc6
        case yc6 =>
          intro wq hSw
          (try dsimp only at hSw)
          first | (go_simp; done) | (go_simp; with_reducible rfl)
        try simp only [Act.put, List.setIfInBounds_toArray, List.set_cons_zero, List.set_cons_succ]
        refine wpAnyH_take (i := 7) (oi := ⟨some 54, _, _, _, _, _⟩) (v := ?vc7) rfl (by kernel_rfl) (by kernel_rfl) (by kernel_rfl) (fun _ _ _ h => h) (Or.inl ⟨by rfl, ?yc7⟩) (Fr.refl _ _) ?rc7
        case yc7 =>
          intro wq hSw
          (try dsimp only at hSw)
          first | (go_simp; done) | (go_simp; with_reducible rfl)
        try simp only [Act.put, List.setIfInBounds_toArray, List.set_cons_zero, List.set_cons_succ]
        refine wpAnyH_take (i := 8) (oi := ⟨some 55, _, _, _, _, _⟩) (v := ?vc8) rfl (by kernel_rfl) (by kernel_rfl) (by kernel_rfl) (fun _ _ _ h => h) (Or.inl ⟨by rfl, ?yc8⟩) (Fr.refl _ _) ?rc8
        case yc8 =>
          intro wq hSw
          (try dsimp only at hSw)
          have hq := hSw.cell_some (ActB.c1 HA.out) (fun h => h)
          first | (go_simp; done) | (go_simp; with_reducible rfl)
        try simp only [Act.put, List.setIfInBounds_toArray, List.set_cons_zero, List.set_cons_succ]
        refine wpAnyH_take (i := 10) (oi := ⟨some 57, _, _, _, _, _⟩) (v := ?vc10) rfl (by kernel_rfl) (by kernel_rfl) (by kernel_rfl) (fun _ _ _ h => h) (Or.inl ⟨by rfl, ?yc10⟩) (Fr.refl _ _) ?rc10
        case yc10 =>
          intro wq hSw
          (try dsimp only at hSw)
          first | (go_simp; done) | (go_simp; with_reducible rfl)
        try simp only [Act.put, List.setIfInBounds_toArray, List.set_cons_zero, List.set_cons_succ]
        refine wpAnyH_take (i := 11) (oi := ⟨some 58, _, _, _, _, _⟩) (v := ?vc11) rfl (by kernel_rfl) (by kernel_rfl) (by kernel_rfl) (fun _ _ _ h => h) (Or.inl ⟨by rfl, ?yc11⟩) (Fr.refl _ _) ?rc11
        case yc11 =>
          intro wq hSw
          (try dsimp only at hSw)
          first | (go_simp; done) | (go_simp; with_reducible rfl)
        try simp only [Act.put, List.setIfInBounds_toArray, List.set_cons_zero, List.set_cons_succ]
        refine wpAnyH_take (i := 12) (oi := ⟨some 59, _, _, _, _, _⟩) (v := ?vc12) rfl (by kernel_rfl) (by kernel_rfl) (by kernel_rfl) (fun _ _ _ h => h) (Or.inl ⟨by rfl, ?yc12⟩) (Fr.refl _ _) ?rc12
        case yc12 =>
          intro wq hSw
          (try dsimp only at hSw)
          have hq := hSw.cell_some (ActB.c1 HA.out) (fun h => h)
          first | (go_simp; done) | (go_simp; with_reducible rfl)
        try simp only [Act.put, List.setIfInBounds_toArray, List.set_cons_zero, List.set_cons_succ]
        refine wpAnyH_ready (rs := [9]) (by kernel_rfl) (by simp) ?_
        refine AllReadyH.cons (o := ⟨some 56, _, _, _, _, _⟩) rfl (fun K hK => ?_) AllReadyH.nil
        go_simp
        refine (has_any (.pointer (some ⟨M5, 0, none⟩)) n f2 at_ wa Pwa.out.p.mp).mono ?_; rintro e wz ⟨rfl, hwz⟩
        obtain rfl : wa = wz := hwz.symm
        have hfr : Fr (fun _ => False) wa wa := Fr.refl _ _
        rw [← Hy1.out]
        go_wp2_with fail
        refine hK.out _ _ hfr (fun hHeld => ?_)
        clear hK K hHeld
        try simp only [Act.put, List.setIfInBounds_toArray, List.set_cons_zero, List.set_cons_succ]
        refine wpAnyH_re (S' := fun w' => Fr (fun _ => False) wa w') (fun w' h => hfr.trans h) ?_
        clear hfr
        refine wpAnyH_ready (rs := [13]) (by kernel_rfl) (by simp) ?_
        refine AllReadyH.cons (o := ⟨some 60, _, _, _, _, _⟩) rfl (fun K hK => ?_) AllReadyH.nil
        go_simp
        refine (rmphas_any X n f2 A2 at_ wa Pwa.out.x).mono ?_; rintro e wz ⟨rfl, hwz⟩
        obtain rfl : wa = wz := hwz.symm
        have hfr : Fr (fun _ => False) wa wa := Fr.refl _ _
        rw [← Hy1.out]
        go_wp2_with fail
        refine hK.out _ _ hfr (fun hHeld => ?_)
        clear hK K hHeld
        try simp only [Act.put, List.setIfInBounds_toArray, List.set_cons_zero, List.set_cons_succ]
        refine wpAnyH_re (S' := fun w' => Fr (fun _ => False) wa w') (fun w' h => hfr.trans h) ?_
        clear hfr
        refine wpAnyH_take (i := 14) (oi := ⟨some 61, _, _, _, _, _⟩) (v := ?vc14) rfl (by kernel_rfl) (by kernel_rfl) (by kernel_rfl) (fun _ _ _ h => h) (Or.inl ⟨by rfl, ?yc14⟩) (Fr.refl _ _) ?rc14
        case yc14 =>
          intro wq hSw
          (try dsimp only at hSw)
          first | (go_simp; done) | (go_simp; with_reducible rfl)
        try simp only [Act.put, List.setIfInBounds_toArray, List.set_cons_zero, List.set_cons_succ]
        refine wpAnyH_take (i := 15) (oi := ⟨some 62, _, _, _, _, _⟩) (v := ?vc15) rfl (by kernel_rfl) (by kernel_rfl) (by kernel_rfl) (fun _ _ _ h => h) (Or.inl ⟨by rfl, ?yc15⟩) (Fr.refl _ _) ?rc15
        case yc15 =>
          intro wq hSw
          (try dsimp only at hSw)
          first | (go_simp; done) | (go_simp; with_reducible rfl)
        try simp only [Act.put, List.setIfInBounds_toArray, List.set_cons_zero, List.set_cons_succ]
        refine wpAnyH_take (i := 16) (oi := ⟨some 63, _, _, _, _, _⟩) (v := ?vc16) rfl (by kernel_rfl) (by kernel_rfl) (by kernel_rfl) (fun _ _ _ h => h) (Or.inl ⟨by rfl, ?yc16⟩) (Fr.refl _ _) ?rc16
        case yc16 =>
          intro wq hSw
          (try dsimp only at hSw)
          first | (go_simp; done) | (go_simp; with_reducible rfl)
        try simp only [Act.put, List.setIfInBounds_toArray, List.set_cons_zero, List.set_cons_succ]
        refine wpAnyH_take (i := 17) (oi := ⟨some 64, _, _, _, _, _⟩) (v := ?vc17) rfl (by kernel_rfl) (by kernel_rfl) (by kernel_rfl) (fun _ _ _ h => h) (Or.inl ⟨by rfl, ?yc17⟩) (Fr.refl _ _) ?rc17
        case yc17 =>
          intro wq hSw
          (try dsimp only at hSw)
          first | (go_simp; done) | (go_simp; with_reducible rfl)
        try simp only [Act.put, List.setIfInBounds_toArray, List.set_cons_zero, List.set_cons_succ]
        refine wpAnyH_take (i := 19) (oi := ⟨some 66, _, _, _, _, _⟩) (v := ?vc19) rfl (by kernel_rfl) (by kernel_rfl) (by kernel_rfl) (fun _ _ _ h => h) (Or.inl ⟨by rfl, ?yc19⟩) (Fr.refl _ _) ?rc19
        case yc19 =>
          intro wq hSw
          (try dsimp only at hSw)
          first | (go_simp; done) | (go_simp; with_reducible rfl)
        try simp only [Act.put, List.setIfInBounds_toArray, List.set_cons_zero, List.set_cons_succ]
        refine wpAnyH_take (i := 20) (oi := ⟨some 67, _, _, _, _, _⟩) (v := ?vc20) rfl (by kernel_rfl) (by kernel_rfl) (by kernel_rfl) (fun _ _ _ h => h) (Or.inl ⟨by rfl, ?yc20⟩) (Fr.refl _ _) ?rc20
        case yc20 =>
          intro wq hSw
          (try dsimp only at hSw)
          first | (go_simp; done) | (go_simp; with_reducible rfl)
        try simp only [Act.put, List.setIfInBounds_toArray, List.set_cons_zero, List.set_cons_succ]
        refine wpAnyH_take (i := 21) (oi := ⟨some 68, _, _, _, _, _⟩) (v := ?vc21) rfl (by kernel_rfl) (by kernel_rfl) (by kernel_rfl) (fun _ _ _ h => h) (Or.inl ⟨by rfl, ?yc21⟩) (Fr.refl _ _) ?rc21
        case yc21 =>
          intro wq hSw
          (try dsimp only at hSw)
          first | (go_simp; done) | (go_simp; with_reducible rfl)
        try simp only [Act.put, List.setIfInBounds_toArray, List.set_cons_zero, List.set_cons_succ]
        refine wpAnyH_take (i := 22) (oi := ⟨some 69, _, _, _, _, _⟩) (v := ?vc22) rfl (by kernel_rfl) (by kernel_rfl) (by kernel_rfl) (fun _ _ _ h => h) (Or.inl ⟨by rfl, ?yc22⟩) (Fr.refl _ _) ?rc22
        case yc22 =>
          intro wq hSw
          (try dsimp only at hSw)
          have hq := hSw.cell_some CX.out (fun h => h)
          first | (go_simp; done) | (go_simp; with_reducible rfl)
        try simp only [Act.put, List.setIfInBounds_toArray, List.set_cons_zero, List.set_cons_succ]
        refine wpAnyH_take (i := 23) (oi := ⟨some 70, _, _, _, _, _⟩) (v := ?vc23) rfl (by kernel_rfl) (by kernel_rfl) (by kernel_rfl) (fun _ _ _ h => h) (Or.inl ⟨by rfl, ?yc23⟩) (Fr.refl _ _) ?rc23
        case yc23 =>
          intro wq hSw
          (try dsimp only at hSw)
          first | (go_simp; done) | (go_simp; with_reducible rfl)
        try simp only [Act.put, List.setIfInBounds_toArray, List.set_cons_zero, List.set_cons_succ]
        refine wpAnyH_ready (rs := [18]) (by kernel_rfl) (by simp) ?_
        refine AllReadyH.cons (o := ⟨some 65, _, _, _, _, _⟩) rfl (fun K hK => ?_) AllReadyH.nil
        go_simp
        refine (count_any (.pointer (some ⟨M5, 0, none⟩)) n f2 wa Pwa.out.p.mp Nwa.out).mono ?_; rintro e wz ⟨rfl, hwz⟩
        obtain rfl : wa = wz := hwz.symm
        have hfr : Fr (fun _ => False) wa wa := Fr.refl _ _
        rw [← Hc1.out]
        go_wp2_with fail
        refine hK.out _ _ hfr (fun hHeld => ?_)
        clear hK K hHeld
        try simp only [Act.put, List.setIfInBounds_toArray, List.set_cons_zero, List.set_cons_succ]
        refine wpAnyH_re (S' := fun w' => Fr (fun _ => False) wa w') (fun w' h => hfr.trans h) ?_
        clear hfr
        refine wpAnyH_take (i := 24) (oi := ⟨some 71, _, _, _, _, _⟩) (v := ?vc24) rfl (by kernel_rfl) (by kernel_rfl) (by kernel_rfl) (fun _ _ _ h => h) (Or.inl ⟨by rfl, ?yc24⟩) (Fr.refl _ _) ?rc24
        case yc24 =>
          intro wq hSw
          (try dsimp only at hSw)
          first | (go_simp; done) | (go_simp; with_reducible rfl)
        try simp only [Act.put, List.setIfInBounds_toArray, List.set_cons_zero, List.set_cons_succ]
        refine wpAnyH_take (i := 25) (oi := ⟨some 72, _, _, _, _, _⟩) (v := ?vc25) rfl (by kernel_rfl) (by kernel_rfl) (by kernel_rfl) (fun _ _ _ h => h) (Or.inl ⟨by rfl, ?yc25⟩) (Fr.refl _ _) ?rc25
        case yc25 =>
          intro wq hSw
          (try dsimp only at hSw)
          first | (go_simp; done) | (go_simp; with_reducible rfl)
        try simp only [Act.put, List.setIfInBounds_toArray, List.set_cons_zero, List.set_cons_succ]
        refine wpAnyH_take (i := 26) (oi := ⟨some 73, _, _, _, _, _⟩) (v := ?vc26) rfl (by kernel_rfl) (by kernel_rfl) (by kernel_rfl) (fun _ _ _ h => h) (Or.inl ⟨by rfl, ?yc26⟩) (Fr.refl _ _) ?rc26
        case yc26 =>
          intro wq hSw
          (try dsimp only at hSw)
          first | (go_simp; done) | (go_simp; with_reducible rfl)
        try simp only [Act.put, List.setIfInBounds_toArray, List.set_cons_zero, List.set_cons_succ]
        refine wpAnyH_take (i := 27) (oi := ⟨some 74, _, _, _, _, _⟩) (v := ?vc27) rfl (by kernel_rfl) (by kernel_rfl) (by kernel_rfl) (fun _ _ _ h => h) (Or.inl ⟨by rfl, ?yc27⟩) (Fr.refl _ _) ?rc27
        case yc27 =>
          intro wq hSw
          (try dsimp only at hSw)
          first | (go_simp; done) | (go_simp; with_reducible rfl)
        try simp only [Act.put, List.setIfInBounds_toArray, List.set_cons_zero, List.set_cons_succ]
        refine wpAnyH_take (i := 28) (oi := ⟨some 75, _, _, _, _, _⟩) (v := ?vc28) rfl (by kernel_rfl) (by kernel_rfl) (by kernel_rfl) (fun _ _ _ h => h) (Or.inl ⟨by rfl, ?yc28⟩) (Fr.refl _ _) ?rc28
        case yc28 =>
          intro wq hSw
          (try dsimp only at hSw)
          first | (go_simp; done) | (go_simp; with_reducible rfl)
        try simp only [Act.put, List.setIfInBounds_toArray, List.set_cons_zero, List.set_cons_succ]
        refine wpAnyH_take (i := 29) (oi := ⟨some 76, _, _, _, _, _⟩) (v := ?vc29) rfl (by kernel_rfl) (by kernel_rfl) (by kernel_rfl) (fun _ _ _ h => h) (Or.inl ⟨by rfl, ?yc29⟩) (Fr.refl _ _) ?rc29
        case yc29 =>
          intro wq hSw
          (try dsimp only at hSw)
          have hq := hSw.cell_some (ActB.c1 HA.out) (fun h => h)
          first | (go_simp; done) | (go_simp; with_reducible rfl)
        try simp only [Act.put, List.setIfInBounds_toArray, List.set_cons_zero, List.set_cons_succ]
        refine wpAnyH_take (i := 31) (oi := ⟨some 78, _, _, _, _, _⟩) (v := ?vc31) rfl (by kernel_rfl) (by kernel_rfl) (by kernel_rfl) (fun _ _ _ h => h) (Or.inl ⟨by rfl, ?yc31⟩) (Fr.refl _ _) ?rc31
        case yc31 =>
          intro wq hSw
          (try dsimp only at hSw)
          first | (go_simp; done) | (go_simp; with_reducible rfl)
        try simp only [Act.put, List.setIfInBounds_toArray, List.set_cons_zero, List.set_cons_succ]
        refine wpAnyH_take (i := 32) (oi := ⟨some 79, _, _, _, _, _⟩) (v := ?vc32) rfl (by kernel_rfl) (by kernel_rfl) (by kernel_rfl) (fun _ _ _ h => h) (Or.inl ⟨by rfl, ?yc32⟩) (Fr.refl _ _) ?rc32
        case yc32 =>
          intro wq hSw
          (try dsimp only at hSw)
          first | (go_simp; done) | (go_simp; with_reducible rfl)
        try simp only [Act.put, List.setIfInBounds_toArray, List.set_cons_zero, List.set_cons_succ]
        refine wpAnyH_take (i := 33) (oi := ⟨some 80, _, _, _, _, _⟩) (v := ?vc33) rfl (by kernel_rfl) (by kernel_rfl) (by kernel_rfl) (fun _ _ _ h => h) (Or.inl ⟨by rfl, ?yc33⟩) (Fr.refl _ _) ?rc33
        case yc33 =>
          intro wq hSw
          (try dsimp only at hSw)
          have hq := hSw.cell_some (ActB.c1 HA.out) (fun h => h)
          first | (go_simp; done) | (go_simp; with_reducible rfl)
        try simp only [Act.put, List.setIfInBounds_toArray, List.set_cons_zero, List.set_cons_succ]
        refine wpAnyH_ready (rs := [30]) (by kernel_rfl) (by simp) ?_
        refine AllReadyH.cons (o := ⟨some 77, _, _, _, _, _⟩) rfl (fun K hK => ?_) AllReadyH.nil
        go_simp
        refine (first_any (.pointer (some ⟨M5, 0, none⟩)) n f2 at_ hat wa Pwa.out.p.mp Nwa.out).mono ?_; rintro e wz ⟨rfl, hwz⟩
        obtain rfl : wa = wz := hwz.symm
        have hfr : Fr (fun _ => False) wa wa := Fr.refl _ _
        rw [← Hz1.out]
        go_wp2_with fail
        refine hK.out _ _ hfr (fun hHeld => ?_)
        clear hK K hHeld
        try simp only [Act.put, List.setIfInBounds_toArray, List.set_cons_zero, List.set_cons_succ]
        refine wpAnyH_re (S' := fun w' => Fr (fun _ => False) wa w') (fun w' h => hfr.trans h) ?_
        clear hfr
        refine wpAnyH_ready (rs := [34]) (by kernel_rfl) (by simp) ?_
        refine AllReadyH.cons (o := ⟨some 81, _, _, _, _, _⟩) rfl (fun K hK => ?_) AllReadyH.nil
        go_simp
        refine (rmpfirst_any X n f2 A2 at_ wa Pwa.out.x).mono ?_; rintro e wb1 ⟨rfl, hb⟩
        have hfr : Fr (fun _ => False) wa wb1 := Fr.of_below hb
        have Pwb1 := Lib.hid (Pwa.out.later hb)
        have Bwb1 := Lib.hid (Bwa.out.trans (hb.mono Bwa.out.size))
        have Nwb1 := Lib.hid (HN.out.keep Bwb1.out)
        have HA := Lib.hid (hfr.row_some HA.out (fun h => h))
        clear hb
        rw [← Hz1.out]
        go_wp2_with fail
        refine hK.out _ _ hfr (fun hHeld => ?_)
        clear hK K hHeld
        try simp only [Act.put, List.setIfInBounds_toArray, List.set_cons_zero, List.set_cons_succ]
        refine wpAnyH_re (S' := fun w' => Fr (fun _ => False) wb1 w') (fun w' h => hfr.trans h) ?_
        clear hfr
        refine wpAnyH_take (i := 35) (oi := ⟨some 82, _, _, _, _, _⟩) (v := ?vc35) rfl (by kernel_rfl) (by kernel_rfl) (by kernel_rfl) (fun _ _ _ h => h) (Or.inl ⟨by rfl, ?yc35⟩) (Fr.refl _ _) ?rc35
        case yc35 =>
          intro wq hSw
          (try dsimp only at hSw)
          first | (go_simp; done) | (go_simp; with_reducible rfl)
        try simp only [Act.put, List.setIfInBounds_toArray, List.set_cons_zero, List.set_cons_succ]
        refine wpAnyH_take (i := 36) (oi := ⟨some 83, _, _, _, _, _⟩) (v := ?vc36) rfl (by kernel_rfl) (by kernel_rfl) (by kernel_rfl) (fun _ _ _ h => h) (Or.inl ⟨by rfl, ?yc36⟩) (Fr.refl _ _) ?rc36
        case yc36 =>
          intro wq hSw
          (try dsimp only at hSw)
          first | (go_simp; done) | (go_simp; with_reducible rfl)
        try simp only [Act.put, List.setIfInBounds_toArray, List.set_cons_zero, List.set_cons_succ]
        refine wpAnyH_take (i := 37) (oi := ⟨some 84, _, _, _, _, _⟩) (v := ?vc37) rfl (by kernel_rfl) (by kernel_rfl) (by kernel_rfl) (fun _ _ _ h => h) (Or.inl ⟨by rfl, ?yc37⟩) (Fr.refl _ _) ?rc37
        case yc37 =>
          intro wq hSw
          (try dsimp only at hSw)
          first | (go_simp; done) | (go_simp; with_reducible rfl)
        try simp only [Act.put, List.setIfInBounds_toArray, List.set_cons_zero, List.set_cons_succ]
        refine wpAnyH_take (i := 38) (oi := ⟨some 85, _, _, _, _, _⟩) (v := ?vc38) rfl (by kernel_rfl) (by kernel_rfl) (by kernel_rfl) (fun _ _ _ h => h) (Or.inl ⟨by rfl, ?yc38⟩) (Fr.refl _ _) ?rc38
        case yc38 =>
          intro wq hSw
          (try dsimp only at hSw)
          first | (go_simp; done) | (go_simp; with_reducible rfl)
        try simp only [Act.put, List.setIfInBounds_toArray, List.set_cons_zero, List.set_cons_succ]
        refine wpAnyH_take (i := 39) (oi := ⟨some 86, _, _, _, _, _⟩) (v := ?vc39) rfl (by kernel_rfl) (by kernel_rfl) (by kernel_rfl) (fun _ _ _ h => h) (Or.inl ⟨by rfl, ?yc39⟩) (Fr.refl _ _) ?rc39
        case yc39 =>
          intro wq hSw
          (try dsimp only at hSw)
          first | (go_simp; done) | (go_simp; with_reducible rfl)
        try simp only [Act.put, List.setIfInBounds_toArray, List.set_cons_zero, List.set_cons_succ]
        refine wpAnyH_take (i := 40) (oi := ⟨some 87, _, _, _, _, _⟩) (v := ?vc40) rfl (by kernel_rfl) (by kernel_rfl) (by kernel_rfl) (fun _ _ _ h => h) (Or.inl ⟨by rfl, ?yc40⟩) (Fr.refl _ _) ?rc40
        case yc40 =>
          intro wq hSw
          (try dsimp only at hSw)
          have hq := hSw.cell_some (ActB.c1 HA.out) (fun h => h)
          first | (go_simp; done) | (go_simp; with_reducible rfl)
        try simp only [Act.put, List.setIfInBounds_toArray, List.set_cons_zero, List.set_cons_succ]
        refine wpAnyH_take (i := 41) (oi := ⟨some 88, _, _, _, _, _⟩) (v := ?vc41) rfl (by kernel_rfl) (by kernel_rfl) (by kernel_rfl) (fun _ _ _ h => h) (Or.inl ⟨by rfl, ?yc41⟩) (Fr.refl _ _) ?rc41
        case yc41 =>
          intro wq hSw
          (try dsimp only at hSw)
          first | (go_simp; done) | (go_simp; with_reducible rfl)
        try simp only [Act.put, List.setIfInBounds_toArray, List.set_cons_zero, List.set_cons_succ]
        refine wpAnyH_take (i := 42) (oi := ⟨some 89, _, _, _, _, _⟩) (v := ?vc42) rfl (by kernel_rfl) (by kernel_rfl) (by kernel_rfl) (fun _ _ _ h => h) (Or.inl ⟨by rfl, ?yc42⟩) (Fr.refl _ _) ?rc42
        case yc42 =>
          intro wq hSw
          (try dsimp only at hSw)
          have hq := hSw.cell_some (ActB.c2 HA.out) (fun h => h)
          first | (go_simp; done) | (go_simp; with_reducible rfl)
        try simp only [Act.put, List.setIfInBounds_toArray, List.set_cons_zero, List.set_cons_succ]
        refine wpAnyH_take (i := 44) (oi := ⟨some 91, _, _, _, _, _⟩) (v := ?vc44) rfl (by kernel_rfl) (by kernel_rfl) (by kernel_rfl) (fun _ _ _ h => h) (Or.inl ⟨by rfl, ?yc44⟩) (Fr.refl _ _) ?rc44
        case yc44 =>
          intro wq hSw
          (try dsimp only at hSw)
          first | (go_simp; done) | (go_simp; with_reducible rfl)
        try simp only [Act.put, List.setIfInBounds_toArray, List.set_cons_zero, List.set_cons_succ]
        refine wpAnyH_take (i := 45) (oi := ⟨some 92, _, _, _, _, _⟩) (v := ?vc45) rfl (by kernel_rfl) (by kernel_rfl) (by kernel_rfl) (fun _ _ _ h => h) (Or.inl ⟨by rfl, ?yc45⟩) (Fr.refl _ _) ?rc45
        case yc45 =>
          intro wq hSw
          (try dsimp only at hSw)
          first | (go_simp; done) | (go_simp; with_reducible rfl)
        try simp only [Act.put, List.setIfInBounds_toArray, List.set_cons_zero, List.set_cons_succ]
        refine wpAnyH_take (i := 46) (oi := ⟨some 93, _, _, _, _, _⟩) (v := ?vc46) rfl (by kernel_rfl) (by kernel_rfl) (by kernel_rfl) (fun _ _ _ h => h) (Or.inl ⟨by rfl, ?yc46⟩) (Fr.refl _ _) ?rc46
        case yc46 =>
          intro wq hSw
          (try dsimp only at hSw)
          have hq := hSw.cell_some (ActB.c1 HA.out) (fun h => h)
          first | (go_simp; done) | (go_simp; with_reducible rfl)
        try simp only [Act.put, List.setIfInBounds_toArray, List.set_cons_zero, List.set_cons_succ]
        refine wpAnyH_take (i := 47) (oi := ⟨some 94, _, _, _, _, _⟩) (v := ?vc47) rfl (by kernel_rfl) (by kernel_rfl) (by kernel_rfl) (fun _ _ _ h => h) (Or.inl ⟨by rfl, ?yc47⟩) (Fr.refl _ _) ?rc47
        case yc47 =>
          intro wq hSw
          (try dsimp only at hSw)
          first | (go_simp; done) | (go_simp; with_reducible rfl)
        try simp only [Act.put, List.setIfInBounds_toArray, List.set_cons_zero, List.set_cons_succ]
        refine wpAnyH_take (i := 48) (oi := ⟨some 95, _, _, _, _, _⟩) (v := ?vc48) rfl (by kernel_rfl) (by kernel_rfl) (by kernel_rfl) (fun _ _ _ h => h) (Or.inl ⟨by rfl, ?yc48⟩) (Fr.refl _ _) ?rc48
        case yc48 =>
          intro wq hSw
          (try dsimp only at hSw)
          have hq := hSw.cell_some (ActB.c2 HA.out) (fun h => h)
          first | (go_simp; done) | (go_simp; with_reducible rfl)
        try simp only [Act.put, List.setIfInBounds_toArray, List.set_cons_zero, List.set_cons_succ]
        refine wpAnyH_ready (rs := [43]) (by kernel_rfl) (by simp) ?_
        refine AllReadyH.cons (o := ⟨some 90, _, _, _, _, _⟩) rfl (fun K hK => ?_) AllReadyH.nil
        go_simp
        refine (run_z (.pointer (some ⟨M5, 0, none⟩)) n f2 at_ many hat wb1 Pwb1.out.p.mp Nwb1.out).mono ?_; rintro e wc ⟨rfl, hb⟩
        have hfr : Fr (fun _ => False) wb1 wc := Fr.of_below hb
        have Pwc := Lib.hid (Pwb1.out.later hb)
        have Bwc := Lib.hid (Bwb1.out.trans (hb.mono Bwb1.out.size))
        have Nwc := Lib.hid (HN.out.keep Bwc.out)
        have HA := Lib.hid (hfr.row_some HA.out (fun h => h))
        clear hb
        rw [← Hr1.out]
        go_wp2_with fail
        refine hK.out _ _ hfr (fun hHeld => ?_)
        clear hK K hHeld
        try simp only [Act.put, List.setIfInBounds_toArray, List.set_cons_zero, List.set_cons_succ]
        refine wpAnyH_re (S' := fun w' => Fr (fun _ => False) wc w') (fun w' h => hfr.trans h) ?_
        clear hfr
        refine wpAnyH_ready (rs := [49]) (by kernel_rfl) (by simp) ?_
        refine AllReadyH.cons (o := ⟨some 96, _, _, _, _, _⟩) rfl (fun K hK => ?_) AllReadyH.nil
        go_simp
        refine (rmprun_any X n f2 A2 at_ many hmy1 hmy wc Pwc.out.x).mono ?_; rintro e wd ⟨rfl, hb⟩
        have hfr : Fr (fun _ => False) wc wd := Fr.of_below hb
        have Pwd := Lib.hid (Pwc.out.later hb)
        have Bwd := Lib.hid (Bwc.out.trans (hb.mono Bwc.out.size))
        have Nwd := Lib.hid (HN.out.keep Bwd.out)
        have HA := Lib.hid (hfr.row_some HA.out (fun h => h))
        clear hb
        rw [← Hr1.out]
        go_wp2_with fail
        refine hK.out _ _ hfr (fun hHeld => ?_)
        clear hK K hHeld
        try simp only [Act.put, List.setIfInBounds_toArray, List.set_cons_zero, List.set_cons_succ]
        refine wpAnyH_re (S' := fun w' => Fr (fun _ => False) wd w') (fun w' h => hfr.trans h) ?_
        clear hfr
        refine wpAnyH_take (i := 50) (oi := ⟨some 97, _, _, _, _, _⟩) (v := ?vc50) rfl (by kernel_rfl) (by kernel_rfl) (by kernel_rfl) (fun _ _ _ h => h) (Or.inl ⟨by rfl, ?yc50⟩) (Fr.refl _ _) ?rc50
        case yc50 =>
          intro wq hSw
          (try dsimp only at hSw)
          first | (go_simp; done) | (go_simp; with_reducible rfl)
        try simp only [Act.put, List.setIfInBounds_toArray, List.set_cons_zero, List.set_cons_succ]
        refine wpAnyH_take (i := 51) (oi := ⟨some 98, _, _, _, _, _⟩) (v := ?vc51) rfl (by kernel_rfl) (by kernel_rfl) (by kernel_rfl) (fun _ _ _ h => h) (Or.inl ⟨by rfl, ?yc51⟩) (Fr.refl _ _) ?rc51
        case yc51 =>
          intro wq hSw
          (try dsimp only at hSw)
          first | (go_simp; done) | (go_simp; with_reducible rfl)
        try simp only [Act.put, List.setIfInBounds_toArray, List.set_cons_zero, List.set_cons_succ]
        refine wpAnyH_take (i := 52) (oi := ⟨some 99, _, _, _, _, _⟩) (v := ?vc52) rfl (by kernel_rfl) (by kernel_rfl) (by kernel_rfl) (fun _ _ _ h => h) (Or.inl ⟨by rfl, ?yc52⟩) (Fr.refl _ _) ?rc52
        case yc52 =>
          intro wq hSw
          (try dsimp only at hSw)
          first | (go_simp; done) | (go_simp; with_reducible rfl)
        try simp only [Act.put, List.setIfInBounds_toArray, List.set_cons_zero, List.set_cons_succ]
        refine wpAnyH_take (i := 53) (oi := ⟨some 100, _, _, _, _, _⟩) (v := ?vc53) rfl (by kernel_rfl) (by kernel_rfl) (by kernel_rfl) (fun _ _ _ h => h) (Or.inl ⟨by rfl, ?yc53⟩) (Fr.refl _ _) ?rc53
        case yc53 =>
          intro wq hSw
          (try dsimp only at hSw)
          first | (go_simp; done) | (go_simp; with_reducible rfl)
        try simp only [Act.put, List.setIfInBounds_toArray, List.set_cons_zero, List.set_cons_succ]
        refine wpAnyH_take (i := 54) (oi := ⟨some 101, _, _, _, _, _⟩) (v := ?vc54) rfl (by kernel_rfl) (by kernel_rfl) (by kernel_rfl) (fun _ _ _ h => h) (Or.inl ⟨by rfl, ?yc54⟩) (Fr.refl _ _) ?rc54
        case yc54 =>
          intro wq hSw
          (try dsimp only at hSw)
          first | (go_simp; done) | (go_simp; with_reducible rfl)
        try simp only [Act.put, List.setIfInBounds_toArray, List.set_cons_zero, List.set_cons_succ]
        refine wpAnyH_take (i := 55) (oi := ⟨some 102, _, _, _, _, _⟩) (v := ?vc55) rfl (by kernel_rfl) (by kernel_rfl) (by kernel_rfl) (fun _ _ _ h => h) (Or.inl ⟨by rfl, ?yc55⟩) (Fr.refl _ _) ?rc55
        case yc55 =>
          intro wq hSw
          (try dsimp only at hSw)
          have hq := hSw.cell_some (ActB.c2 HA.out) (fun h => h)
          first | (go_simp; done) | (go_simp; with_reducible rfl)
        try simp only [Act.put, List.setIfInBounds_toArray, List.set_cons_zero, List.set_cons_succ]
        refine wpAnyH_take (i := 57) (oi := ⟨some 104, _, _, _, _, _⟩) (v := ?vc57) rfl (by kernel_rfl) (by kernel_rfl) (by kernel_rfl) (fun _ _ _ h => h) (Or.inl ⟨by rfl, ?yc57⟩) (Fr.refl _ _) ?rc57
        case yc57 =>
          intro wq hSw
          (try dsimp only at hSw)
          first | (go_simp; done) | (go_simp; with_reducible rfl)
        try simp only [Act.put, List.setIfInBounds_toArray, List.set_cons_zero, List.set_cons_succ]
        refine wpAnyH_take (i := 58) (oi := ⟨some 105, _, _, _, _, _⟩) (v := ?vc58) rfl (by kernel_rfl) (by kernel_rfl) (by kernel_rfl) (fun _ _ _ h => h) (Or.inl ⟨by rfl, ?yc58⟩) (Fr.refl _ _) ?rc58
        case yc58 =>
          intro wq hSw
          (try dsimp only at hSw)
          first | (go_simp; done) | (go_simp; with_reducible rfl)
        try simp only [Act.put, List.setIfInBounds_toArray, List.set_cons_zero, List.set_cons_succ]
        refine wpAnyH_take (i := 59) (oi := ⟨some 106, _, _, _, _, _⟩) (v := ?vc59) rfl (by kernel_rfl) (by kernel_rfl) (by kernel_rfl) (fun _ _ _ h => h) (Or.inl ⟨by rfl, ?yc59⟩) (Fr.refl _ _) ?rc59
        case yc59 =>
          intro wq hSw
          (try dsimp only at hSw)
          have hq := hSw.cell_some (ActB.c2 HA.out) (fun h => h)
          first | (go_simp; done) | (go_simp; with_reducible rfl)
        try simp only [Act.put, List.setIfInBounds_toArray, List.set_cons_zero, List.set_cons_succ]
        refine wpAnyH_ready (rs := [56]) (by kernel_rfl) (by simp) ?_
        refine AllReadyH.cons (o := ⟨some 103, _, _, _, _, _⟩) rfl (fun K hK => ?_) AllReadyH.nil
        go_simp
        refine (least_z (.pointer (some ⟨M5, 0, none⟩)) n f2 many hmy wd Pwd.out.p.mp Nwd.out).mono ?_; rintro e we ⟨A7, c7, rfl, ho7, hb, -⟩
        have hs7 := ho7.sl
        rw [← Hl1.out, ← Hq1.out] at hs7 ⊢
        have S7 := Lib.hid hs7
        clear hs7 ho7
        have hfr : Fr (fun _ => False) wd we := Fr.of_below hb
        have Pwe := Lib.hid (Pwd.out.later hb)
        have Bwe := Lib.hid (Bwd.out.trans (hb.mono Bwd.out.size))
        have Nwe := Lib.hid (HN.out.keep Bwe.out)
        have HA := Lib.hid (hfr.row_some HA.out (fun h => h))
        clear hb
        go_wp2_with fail
        refine hK.out _ _ hfr (fun hHeld => ?_)
        clear hK K hHeld
        try simp only [Act.put, List.setIfInBounds_toArray, List.set_cons_zero, List.set_cons_succ]
        refine wpAnyH_re (S' := fun w' => Fr (fun _ => False) we w') (fun w' h => hfr.trans h) ?_
        clear hfr
        refine wpAnyH_ready (rs := [60]) (by kernel_rfl) (by simp) ?_
        refine AllReadyH.cons (o := ⟨some 107, _, _, _, _, _⟩) rfl (fun K hK => ?_) AllReadyH.nil
        go_simp
        refine (rmpleast_any X n f2 A2 many we Pwe.out.x).mono ?_; rintro e wf ⟨A8, c8, rfl, hs8, hb⟩
        rw [← Hl1.out, ← Hq1.out] at hs8 ⊢
        have S8 := Lib.hid hs8
        have S7 := Lib.hid (S7.out.below hb (Nat.le_refl _))
        clear hs8
        have hfr : Fr (fun _ => False) we wf := Fr.of_below hb
        have Pwf := Lib.hid (Pwe.out.later hb)
        have Bwf := Lib.hid (Bwe.out.trans (hb.mono Bwe.out.size))
        have Nwf := Lib.hid (HN.out.keep Bwf.out)
        have HA := Lib.hid (hfr.row_some HA.out (fun h => h))
        clear hb
        go_wp2_with fail
        refine hK.out _ _ hfr (fun hHeld => ?_)
        clear hK K hHeld
        try simp only [Act.put, List.setIfInBounds_toArray, List.set_cons_zero, List.set_cons_succ]
        refine wpAnyH_re (S' := fun w' => Fr (fun _ => False) wf w') (fun w' h => hfr.trans h) ?_
        clear hfr
        refine wpAnyH_ready (rs := [61]) (by kernel_rfl) (by simp) ?_
        refine AllReadyH.cons (o := ⟨some 108, _, _, _, _, _⟩) rfl (fun K hK => ?_) AllReadyH.nil
        go_simp
        have hins := rints_any A7 q1 c7 l1 A8 q1 c8 l1 wf S7.out S8.out
        rw [show decide (l1 = l1) = true by simp] at hins
        refine (hins).mono ?_; rintro e wg ⟨rfl, hb⟩
        have hfr : Fr (fun _ => False) wf wg := Fr.of_below hb
        have Pwg := Lib.hid (Pwf.out.later hb)
        have Bwg := Lib.hid (Bwf.out.trans (hb.mono Bwf.out.size))
        have Nwg := Lib.hid (HN.out.keep Bwg.out)
        have HA := Lib.hid (hfr.row_some HA.out (fun h => h))
        clear hb
        go_wp2_with fail
        refine hK.out _ _ hfr (fun hHeld => ?_)
        clear hK K hHeld
        try simp only [Act.put, List.setIfInBounds_toArray, List.set_cons_zero, List.set_cons_succ]
        refine wpAnyH_re (S' := fun w' => Fr (fun _ => False) wg w') (fun w' h => hfr.trans h) ?_
        clear hfr
        refine wpAnyH_take (i := 62) (oi := ⟨some 109, _, _, _, _, _⟩) (v := ?vc62) rfl (by kernel_rfl) (by kernel_rfl) (by kernel_rfl) (fun _ _ _ h => h) (Or.inl ⟨by rfl, ?yc62⟩) (Fr.refl _ _) ?rc62
        case yc62 =>
          intro wq hSw
          (try dsimp only at hSw)
          first | (go_simp; done) | (go_simp; with_reducible rfl)
        try simp only [Act.put, List.setIfInBounds_toArray, List.set_cons_zero, List.set_cons_succ]
        refine wpAnyH_take (i := 63) (oi := ⟨some 110, _, _, _, _, _⟩) (v := ?vc63) rfl (by kernel_rfl) (by kernel_rfl) (by kernel_rfl) (fun _ _ _ h => h) (Or.inl ⟨by rfl, ?yc63⟩) (Fr.refl _ _) ?rc63
        case yc63 =>
          intro wq hSw
          (try dsimp only at hSw)
          first | (go_simp; done) | (go_simp; with_reducible rfl)
        try simp only [Act.put, List.setIfInBounds_toArray, List.set_cons_zero, List.set_cons_succ]
        refine wpAnyH_done (by kernel_rfl) ?_ _
        go_wp2_with fail
        go_roundw
        case rel => exact ⟨j + 1, M5, B5, f2, A2, by omega, by go_num, rfl, Pwg.out, Bwg.out⟩
        case measure => simp [intOf]; omega
      · have hk4b : (kd == 4) = false := by simpa using hk4
        clear hk4
        go_wp2_with fail
        rw [← hwb]
        clear hwb
        obtain ⟨wl, rfl⟩ : ∃ y, y = wb := ⟨_, rfl⟩
        have PL := Lib.hid Pb.out
        have BL := Lib.hid Bbb.out
        have HA := Lib.hid HAb.out
        have N5 := Lib.hid (show ¬ (wr.heap.size = B ∨ wr.heap.size = X) by have := HNE.out; omega)
        clear q0 q1 q2 hk4b
        refine wp_region_held_drew (S := fun w' => Fr (fun k => k = B ∨ k = X) wl.drew w') (by kernel_rfl) (Fr.refl _ _) (fun hHeld => ?_)
        clear hHeld
        refine wpAnyH_take (i := 0) (oi := ⟨some 47, _, _, _, _, _⟩) (v := ?vd0) rfl (by kernel_rfl) (by kernel_rfl) (by kernel_rfl) (fun _ _ _ h => h) (Or.inl ⟨by rfl, ?yd0⟩) (Fr.refl _ _) ?rd0
        case yd0 =>
          intro wq hSw
          (try dsimp only at hSw)
          first | (go_simp; done) | (go_simp; with_reducible rfl)
        try simp only [Act.put, List.setIfInBounds_toArray, List.set_cons_zero, List.set_cons_succ]
        refine wpAnyH_take (i := 1) (oi := ⟨some 48, _, _, _, _, _⟩) (v := ?vd1) rfl (by kernel_rfl) (by kernel_rfl) (by kernel_rfl) (fun _ _ _ h => h) (Or.inl ⟨by rfl, ?yd1⟩) (Fr.refl _ _) ?rd1
        case yd1 =>
          intro wq hSw
          (try dsimp only at hSw)
          first | (go_simp; done) | (go_simp; with_reducible rfl)
        try simp only [Act.put, List.setIfInBounds_toArray, List.set_cons_zero, List.set_cons_succ]
        refine wpAnyH_take (i := 2) (oi := ⟨some 49, _, _, _, _, _⟩) (v := (.agg #[.int .i64 kd, .int .i64 at_, .int .i64 many])) rfl (by kernel_rfl) (by kernel_rfl) (by kernel_rfl) (fun _ _ _ h => h) (Or.inl ⟨by rfl, ?yd2⟩) (Fr.refl _ _) ?rd2
        case yd2 =>
          intro wq hSw
          exact step_loadA12 (x := .tmp 8) rfl rfl (hSw.row_some HA.out N5.out)
        try simp only [Act.put, List.setIfInBounds_toArray, List.set_cons_zero, List.set_cons_succ]
        refine wpAnyH_ready (rs := [3]) (by kernel_rfl) (by simp) ?_
        refine AllReadyH.cons (o := ⟨some 50, _, _, _, _, _⟩) rfl (fun K hK => ?_) AllReadyH.nil
        go_simp
        refine (act_any W.heap.size M B X n f A kd at_ many hmy wl.drew (PL.out.later (Below.drew (Below.refl _ _))) (HN.out.keep (BL.out.trans ((Below.drew (Below.refl _ _)).mono BL.out.size)))).mono ?_; rintro e wa ⟨rfl, f2, A2, hp2, hf2⟩
        have hfr : Fr (fun k => k = B ∨ k = X) wl.drew wa := hf2
        have Pwa := Lib.hid hp2
        have Bwa := Lib.hid (show Below W.heap.size W wa from (BL.out.trans ((Below.drew (Below.refl _ _)).mono BL.out.size)).trans (hf2.below2 BL.out.size hp2.lb hp2.lx))
        have Nwa := Lib.hid (HN.out.keep Bwa.out)
        have HA := Lib.hid (show ActB wa wr.heap.size kd at_ many from hf2.row_some HA.out N5.out)
        obtain ⟨y1, hy1⟩ : ∃ y, y = (inB n at_ && f2 at_.toNat) := ⟨_, rfl⟩
        obtain ⟨c1, hc1⟩ : ∃ y, y = cntL n f2 := ⟨_, rfl⟩
        obtain ⟨z1, hz1⟩ : ∃ y, y = headZ (plc n at_.toNat f2 false) := ⟨_, rfl⟩
        obtain ⟨r1, hr1⟩ : ∃ y, y = runD12 n f2 at_ many := ⟨_, rfl⟩
        obtain ⟨l1, hl1⟩ : ∃ y, y = leastD n f2 many := ⟨_, rfl⟩
        obtain ⟨q1, hq1⟩ : ∃ y, y = l1.length := ⟨_, rfl⟩
        have Hy1 := Lib.hid hy1
        have Hc1 := Lib.hid hc1
        have Hz1 := Lib.hid hz1
        have Hr1 := Lib.hid hr1
        have Hl1 := Lib.hid hl1
        have Hq1 := Lib.hid hq1
        have hcX : ∃ cx, wa.cell? ⟨X, 1, none⟩ = some (.slice A2 c1 cx) := by
          obtain ⟨cx, h1, _⟩ := hp2.x.ex
          rw [← hc1] at h1
          exact ⟨cx, by rw [cell_of_row _ _ _ _ _ _ h1]; rfl⟩
        obtain ⟨cx, hcx⟩ := hcX
        have CX := Lib.hid hcx
        clear hp2 hf2 hy1 hc1 hz1 hr1 hl1 hq1 hcx
        go_wp2_with fail
        refine hK.out _ _ hfr (fun hHeld => ?_)
        clear hK K hHeld
        try simp only [Act.put, List.setIfInBounds_toArray, List.set_cons_zero, List.set_cons_succ]
        refine wpAnyH_re (S' := fun w' => Fr (fun _ => False) wa w') (fun w' h => hfr.trans (h.mono (fun _ h => h.elim))) ?_
        clear hfr
        refine wpAnyH_take (i := 4) (oi := ⟨some 51, _, _, _, _, _⟩) (v := ?vd4) rfl (by kernel_rfl) (by kernel_rfl) (by kernel_rfl) (fun _ _ _ h => h) (Or.inl ⟨by rfl, ?yd4⟩) (Fr.refl _ _) ?rd4
        case yd4 =>
          intro wq hSw
          (try dsimp only at hSw)
          first | (go_simp; done) | (go_simp; with_reducible rfl)
        try simp only [Act.put, List.setIfInBounds_toArray, List.set_cons_zero, List.set_cons_succ]
        refine wpAnyH_take (i := 5) (oi := ⟨some 52, _, _, _, _, _⟩) (v := ?vd5) rfl (by kernel_rfl) (by kernel_rfl) (by kernel_rfl) (fun _ _ _ h => h) (Or.inl ⟨by rfl, ?yd5⟩) (Fr.refl _ _) ?rd5
        case yd5 =>
          intro wq hSw
          (try dsimp only at hSw)
          first | (go_simp; done) | (go_simp; with_reducible rfl)
        try simp only [Act.put, List.setIfInBounds_toArray, List.set_cons_zero, List.set_cons_succ]
        refine wpAnyH_take (i := 6) (oi := ⟨some 53, _, _, _, _, _⟩) (v := ?vd6) rfl (by kernel_rfl) (by kernel_rfl) (by kernel_rfl) (fun _ _ _ h => h) (Or.inl ⟨by rfl, ?yd6⟩) (Fr.refl _ _) ?rd6
        case yd6 =>
          intro wq hSw
          (try dsimp only at hSw)
          first | (go_simp; done) | (go_simp; with_reducible rfl)
        try simp only [Act.put, List.setIfInBounds_toArray, List.set_cons_zero, List.set_cons_succ]
        refine wpAnyH_take (i := 7) (oi := ⟨some 54, _, _, _, _, _⟩) (v := ?vd7) rfl (by kernel_rfl) (by kernel_rfl) (by kernel_rfl) (fun _ _ _ h => h) (Or.inl ⟨by rfl, ?yd7⟩) (Fr.refl _ _) ?rd7
        case yd7 =>
          intro wq hSw
          (try dsimp only at hSw)
          first | (go_simp; done) | (go_simp; with_reducible rfl)
        try simp only [Act.put, List.setIfInBounds_toArray, List.set_cons_zero, List.set_cons_succ]
        refine wpAnyH_take (i := 8) (oi := ⟨some 55, _, _, _, _, _⟩) (v := ?vd8) rfl (by kernel_rfl) (by kernel_rfl) (by kernel_rfl) (fun _ _ _ h => h) (Or.inl ⟨by rfl, ?yd8⟩) (Fr.refl _ _) ?rd8
        case yd8 =>
          intro wq hSw
          (try dsimp only at hSw)
          have hq := hSw.cell_some (ActB.c1 HA.out) (fun h => h)
          first | (go_simp; done) | (go_simp; with_reducible rfl)
        try simp only [Act.put, List.setIfInBounds_toArray, List.set_cons_zero, List.set_cons_succ]
        refine wpAnyH_take (i := 10) (oi := ⟨some 57, _, _, _, _, _⟩) (v := ?vd10) rfl (by kernel_rfl) (by kernel_rfl) (by kernel_rfl) (fun _ _ _ h => h) (Or.inl ⟨by rfl, ?yd10⟩) (Fr.refl _ _) ?rd10
        case yd10 =>
          intro wq hSw
          (try dsimp only at hSw)
          first | (go_simp; done) | (go_simp; with_reducible rfl)
        try simp only [Act.put, List.setIfInBounds_toArray, List.set_cons_zero, List.set_cons_succ]
        refine wpAnyH_take (i := 11) (oi := ⟨some 58, _, _, _, _, _⟩) (v := ?vd11) rfl (by kernel_rfl) (by kernel_rfl) (by kernel_rfl) (fun _ _ _ h => h) (Or.inl ⟨by rfl, ?yd11⟩) (Fr.refl _ _) ?rd11
        case yd11 =>
          intro wq hSw
          (try dsimp only at hSw)
          first | (go_simp; done) | (go_simp; with_reducible rfl)
        try simp only [Act.put, List.setIfInBounds_toArray, List.set_cons_zero, List.set_cons_succ]
        refine wpAnyH_take (i := 12) (oi := ⟨some 59, _, _, _, _, _⟩) (v := ?vd12) rfl (by kernel_rfl) (by kernel_rfl) (by kernel_rfl) (fun _ _ _ h => h) (Or.inl ⟨by rfl, ?yd12⟩) (Fr.refl _ _) ?rd12
        case yd12 =>
          intro wq hSw
          (try dsimp only at hSw)
          have hq := hSw.cell_some (ActB.c1 HA.out) (fun h => h)
          first | (go_simp; done) | (go_simp; with_reducible rfl)
        try simp only [Act.put, List.setIfInBounds_toArray, List.set_cons_zero, List.set_cons_succ]
        refine wpAnyH_ready (rs := [9]) (by kernel_rfl) (by simp) ?_
        refine AllReadyH.cons (o := ⟨some 56, _, _, _, _, _⟩) rfl (fun K hK => ?_) AllReadyH.nil
        go_simp
        refine (has_any (.pointer (some ⟨M, 0, none⟩)) n f2 at_ wa Pwa.out.p.mp).mono ?_; rintro e wz ⟨rfl, hwz⟩
        obtain rfl : wa = wz := hwz.symm
        have hfr : Fr (fun _ => False) wa wa := Fr.refl _ _
        rw [← Hy1.out]
        go_wp2_with fail
        refine hK.out _ _ hfr (fun hHeld => ?_)
        clear hK K hHeld
        try simp only [Act.put, List.setIfInBounds_toArray, List.set_cons_zero, List.set_cons_succ]
        refine wpAnyH_re (S' := fun w' => Fr (fun _ => False) wa w') (fun w' h => hfr.trans h) ?_
        clear hfr
        refine wpAnyH_ready (rs := [13]) (by kernel_rfl) (by simp) ?_
        refine AllReadyH.cons (o := ⟨some 60, _, _, _, _, _⟩) rfl (fun K hK => ?_) AllReadyH.nil
        go_simp
        refine (rmphas_any X n f2 A2 at_ wa Pwa.out.x).mono ?_; rintro e wz ⟨rfl, hwz⟩
        obtain rfl : wa = wz := hwz.symm
        have hfr : Fr (fun _ => False) wa wa := Fr.refl _ _
        rw [← Hy1.out]
        go_wp2_with fail
        refine hK.out _ _ hfr (fun hHeld => ?_)
        clear hK K hHeld
        try simp only [Act.put, List.setIfInBounds_toArray, List.set_cons_zero, List.set_cons_succ]
        refine wpAnyH_re (S' := fun w' => Fr (fun _ => False) wa w') (fun w' h => hfr.trans h) ?_
        clear hfr
        refine wpAnyH_take (i := 14) (oi := ⟨some 61, _, _, _, _, _⟩) (v := ?vd14) rfl (by kernel_rfl) (by kernel_rfl) (by kernel_rfl) (fun _ _ _ h => h) (Or.inl ⟨by rfl, ?yd14⟩) (Fr.refl _ _) ?rd14
        case yd14 =>
          intro wq hSw
          (try dsimp only at hSw)
          first | (go_simp; done) | (go_simp; with_reducible rfl)
        try simp only [Act.put, List.setIfInBounds_toArray, List.set_cons_zero, List.set_cons_succ]
        refine wpAnyH_take (i := 15) (oi := ⟨some 62, _, _, _, _, _⟩) (v := ?vd15) rfl (by kernel_rfl) (by kernel_rfl) (by kernel_rfl) (fun _ _ _ h => h) (Or.inl ⟨by rfl, ?yd15⟩) (Fr.refl _ _) ?rd15
        case yd15 =>
          intro wq hSw
          (try dsimp only at hSw)
          first | (go_simp; done) | (go_simp; with_reducible rfl)
        try simp only [Act.put, List.setIfInBounds_toArray, List.set_cons_zero, List.set_cons_succ]
        refine wpAnyH_take (i := 16) (oi := ⟨some 63, _, _, _, _, _⟩) (v := ?vd16) rfl (by kernel_rfl) (by kernel_rfl) (by kernel_rfl) (fun _ _ _ h => h) (Or.inl ⟨by rfl, ?yd16⟩) (Fr.refl _ _) ?rd16
        case yd16 =>
          intro wq hSw
          (try dsimp only at hSw)
          first | (go_simp; done) | (go_simp; with_reducible rfl)
        try simp only [Act.put, List.setIfInBounds_toArray, List.set_cons_zero, List.set_cons_succ]
        refine wpAnyH_take (i := 17) (oi := ⟨some 64, _, _, _, _, _⟩) (v := ?vd17) rfl (by kernel_rfl) (by kernel_rfl) (by kernel_rfl) (fun _ _ _ h => h) (Or.inl ⟨by rfl, ?yd17⟩) (Fr.refl _ _) ?rd17
        case yd17 =>
          intro wq hSw
          (try dsimp only at hSw)
          first | (go_simp; done) | (go_simp; with_reducible rfl)
        try simp only [Act.put, List.setIfInBounds_toArray, List.set_cons_zero, List.set_cons_succ]
        refine wpAnyH_take (i := 19) (oi := ⟨some 66, _, _, _, _, _⟩) (v := ?vd19) rfl (by kernel_rfl) (by kernel_rfl) (by kernel_rfl) (fun _ _ _ h => h) (Or.inl ⟨by rfl, ?yd19⟩) (Fr.refl _ _) ?rd19
        case yd19 =>
          intro wq hSw
          (try dsimp only at hSw)
          first | (go_simp; done) | (go_simp; with_reducible rfl)
        try simp only [Act.put, List.setIfInBounds_toArray, List.set_cons_zero, List.set_cons_succ]
        refine wpAnyH_take (i := 20) (oi := ⟨some 67, _, _, _, _, _⟩) (v := ?vd20) rfl (by kernel_rfl) (by kernel_rfl) (by kernel_rfl) (fun _ _ _ h => h) (Or.inl ⟨by rfl, ?yd20⟩) (Fr.refl _ _) ?rd20
        case yd20 =>
          intro wq hSw
          (try dsimp only at hSw)
          first | (go_simp; done) | (go_simp; with_reducible rfl)
        try simp only [Act.put, List.setIfInBounds_toArray, List.set_cons_zero, List.set_cons_succ]
        refine wpAnyH_take (i := 21) (oi := ⟨some 68, _, _, _, _, _⟩) (v := ?vd21) rfl (by kernel_rfl) (by kernel_rfl) (by kernel_rfl) (fun _ _ _ h => h) (Or.inl ⟨by rfl, ?yd21⟩) (Fr.refl _ _) ?rd21
        case yd21 =>
          intro wq hSw
          (try dsimp only at hSw)
          first | (go_simp; done) | (go_simp; with_reducible rfl)
        try simp only [Act.put, List.setIfInBounds_toArray, List.set_cons_zero, List.set_cons_succ]
        refine wpAnyH_take (i := 22) (oi := ⟨some 69, _, _, _, _, _⟩) (v := ?vd22) rfl (by kernel_rfl) (by kernel_rfl) (by kernel_rfl) (fun _ _ _ h => h) (Or.inl ⟨by rfl, ?yd22⟩) (Fr.refl _ _) ?rd22
        case yd22 =>
          intro wq hSw
          (try dsimp only at hSw)
          have hq := hSw.cell_some CX.out (fun h => h)
          first | (go_simp; done) | (go_simp; with_reducible rfl)
        try simp only [Act.put, List.setIfInBounds_toArray, List.set_cons_zero, List.set_cons_succ]
        refine wpAnyH_take (i := 23) (oi := ⟨some 70, _, _, _, _, _⟩) (v := ?vd23) rfl (by kernel_rfl) (by kernel_rfl) (by kernel_rfl) (fun _ _ _ h => h) (Or.inl ⟨by rfl, ?yd23⟩) (Fr.refl _ _) ?rd23
        case yd23 =>
          intro wq hSw
          (try dsimp only at hSw)
          first | (go_simp; done) | (go_simp; with_reducible rfl)
        try simp only [Act.put, List.setIfInBounds_toArray, List.set_cons_zero, List.set_cons_succ]
        refine wpAnyH_ready (rs := [18]) (by kernel_rfl) (by simp) ?_
        refine AllReadyH.cons (o := ⟨some 65, _, _, _, _, _⟩) rfl (fun K hK => ?_) AllReadyH.nil
        go_simp
        refine (count_any (.pointer (some ⟨M, 0, none⟩)) n f2 wa Pwa.out.p.mp Nwa.out).mono ?_; rintro e wz ⟨rfl, hwz⟩
        obtain rfl : wa = wz := hwz.symm
        have hfr : Fr (fun _ => False) wa wa := Fr.refl _ _
        rw [← Hc1.out]
        go_wp2_with fail
        refine hK.out _ _ hfr (fun hHeld => ?_)
        clear hK K hHeld
        try simp only [Act.put, List.setIfInBounds_toArray, List.set_cons_zero, List.set_cons_succ]
        refine wpAnyH_re (S' := fun w' => Fr (fun _ => False) wa w') (fun w' h => hfr.trans h) ?_
        clear hfr
        refine wpAnyH_take (i := 24) (oi := ⟨some 71, _, _, _, _, _⟩) (v := ?vd24) rfl (by kernel_rfl) (by kernel_rfl) (by kernel_rfl) (fun _ _ _ h => h) (Or.inl ⟨by rfl, ?yd24⟩) (Fr.refl _ _) ?rd24
        case yd24 =>
          intro wq hSw
          (try dsimp only at hSw)
          first | (go_simp; done) | (go_simp; with_reducible rfl)
        try simp only [Act.put, List.setIfInBounds_toArray, List.set_cons_zero, List.set_cons_succ]
        refine wpAnyH_take (i := 25) (oi := ⟨some 72, _, _, _, _, _⟩) (v := ?vd25) rfl (by kernel_rfl) (by kernel_rfl) (by kernel_rfl) (fun _ _ _ h => h) (Or.inl ⟨by rfl, ?yd25⟩) (Fr.refl _ _) ?rd25
        case yd25 =>
          intro wq hSw
          (try dsimp only at hSw)
          first | (go_simp; done) | (go_simp; with_reducible rfl)
        try simp only [Act.put, List.setIfInBounds_toArray, List.set_cons_zero, List.set_cons_succ]
        refine wpAnyH_take (i := 26) (oi := ⟨some 73, _, _, _, _, _⟩) (v := ?vd26) rfl (by kernel_rfl) (by kernel_rfl) (by kernel_rfl) (fun _ _ _ h => h) (Or.inl ⟨by rfl, ?yd26⟩) (Fr.refl _ _) ?rd26
        case yd26 =>
          intro wq hSw
          (try dsimp only at hSw)
          first | (go_simp; done) | (go_simp; with_reducible rfl)
        try simp only [Act.put, List.setIfInBounds_toArray, List.set_cons_zero, List.set_cons_succ]
        refine wpAnyH_take (i := 27) (oi := ⟨some 74, _, _, _, _, _⟩) (v := ?vd27) rfl (by kernel_rfl) (by kernel_rfl) (by kernel_rfl) (fun _ _ _ h => h) (Or.inl ⟨by rfl, ?yd27⟩) (Fr.refl _ _) ?rd27
        case yd27 =>
          intro wq hSw
          (try dsimp only at hSw)
          first | (go_simp; done) | (go_simp; with_reducible rfl)
        try simp only [Act.put, List.setIfInBounds_toArray, List.set_cons_zero, List.set_cons_succ]
        refine wpAnyH_take (i := 28) (oi := ⟨some 75, _, _, _, _, _⟩) (v := ?vd28) rfl (by kernel_rfl) (by kernel_rfl) (by kernel_rfl) (fun _ _ _ h => h) (Or.inl ⟨by rfl, ?yd28⟩) (Fr.refl _ _) ?rd28
        case yd28 =>
          intro wq hSw
          (try dsimp only at hSw)
          first | (go_simp; done) | (go_simp; with_reducible rfl)
        try simp only [Act.put, List.setIfInBounds_toArray, List.set_cons_zero, List.set_cons_succ]
        refine wpAnyH_take (i := 29) (oi := ⟨some 76, _, _, _, _, _⟩) (v := ?vd29) rfl (by kernel_rfl) (by kernel_rfl) (by kernel_rfl) (fun _ _ _ h => h) (Or.inl ⟨by rfl, ?yd29⟩) (Fr.refl _ _) ?rd29
        case yd29 =>
          intro wq hSw
          (try dsimp only at hSw)
          have hq := hSw.cell_some (ActB.c1 HA.out) (fun h => h)
          first | (go_simp; done) | (go_simp; with_reducible rfl)
        try simp only [Act.put, List.setIfInBounds_toArray, List.set_cons_zero, List.set_cons_succ]
        refine wpAnyH_take (i := 31) (oi := ⟨some 78, _, _, _, _, _⟩) (v := ?vd31) rfl (by kernel_rfl) (by kernel_rfl) (by kernel_rfl) (fun _ _ _ h => h) (Or.inl ⟨by rfl, ?yd31⟩) (Fr.refl _ _) ?rd31
        case yd31 =>
          intro wq hSw
          (try dsimp only at hSw)
          first | (go_simp; done) | (go_simp; with_reducible rfl)
        try simp only [Act.put, List.setIfInBounds_toArray, List.set_cons_zero, List.set_cons_succ]
        refine wpAnyH_take (i := 32) (oi := ⟨some 79, _, _, _, _, _⟩) (v := ?vd32) rfl (by kernel_rfl) (by kernel_rfl) (by kernel_rfl) (fun _ _ _ h => h) (Or.inl ⟨by rfl, ?yd32⟩) (Fr.refl _ _) ?rd32
        case yd32 =>
          intro wq hSw
          (try dsimp only at hSw)
          first | (go_simp; done) | (go_simp; with_reducible rfl)
        try simp only [Act.put, List.setIfInBounds_toArray, List.set_cons_zero, List.set_cons_succ]
        refine wpAnyH_take (i := 33) (oi := ⟨some 80, _, _, _, _, _⟩) (v := ?vd33) rfl (by kernel_rfl) (by kernel_rfl) (by kernel_rfl) (fun _ _ _ h => h) (Or.inl ⟨by rfl, ?yd33⟩) (Fr.refl _ _) ?rd33
        case yd33 =>
          intro wq hSw
          (try dsimp only at hSw)
          have hq := hSw.cell_some (ActB.c1 HA.out) (fun h => h)
          first | (go_simp; done) | (go_simp; with_reducible rfl)
        try simp only [Act.put, List.setIfInBounds_toArray, List.set_cons_zero, List.set_cons_succ]
        refine wpAnyH_ready (rs := [30]) (by kernel_rfl) (by simp) ?_
        refine AllReadyH.cons (o := ⟨some 77, _, _, _, _, _⟩) rfl (fun K hK => ?_) AllReadyH.nil
        go_simp
        refine (first_any (.pointer (some ⟨M, 0, none⟩)) n f2 at_ hat wa Pwa.out.p.mp Nwa.out).mono ?_; rintro e wz ⟨rfl, hwz⟩
        obtain rfl : wa = wz := hwz.symm
        have hfr : Fr (fun _ => False) wa wa := Fr.refl _ _
        rw [← Hz1.out]
        go_wp2_with fail
        refine hK.out _ _ hfr (fun hHeld => ?_)
        clear hK K hHeld
        try simp only [Act.put, List.setIfInBounds_toArray, List.set_cons_zero, List.set_cons_succ]
        refine wpAnyH_re (S' := fun w' => Fr (fun _ => False) wa w') (fun w' h => hfr.trans h) ?_
        clear hfr
        refine wpAnyH_ready (rs := [34]) (by kernel_rfl) (by simp) ?_
        refine AllReadyH.cons (o := ⟨some 81, _, _, _, _, _⟩) rfl (fun K hK => ?_) AllReadyH.nil
        go_simp
        refine (rmpfirst_any X n f2 A2 at_ wa Pwa.out.x).mono ?_; rintro e wb1 ⟨rfl, hb⟩
        have hfr : Fr (fun _ => False) wa wb1 := Fr.of_below hb
        have Pwb1 := Lib.hid (Pwa.out.later hb)
        have Bwb1 := Lib.hid (Bwa.out.trans (hb.mono Bwa.out.size))
        have Nwb1 := Lib.hid (HN.out.keep Bwb1.out)
        have HA := Lib.hid (hfr.row_some HA.out (fun h => h))
        clear hb
        rw [← Hz1.out]
        go_wp2_with fail
        refine hK.out _ _ hfr (fun hHeld => ?_)
        clear hK K hHeld
        try simp only [Act.put, List.setIfInBounds_toArray, List.set_cons_zero, List.set_cons_succ]
        refine wpAnyH_re (S' := fun w' => Fr (fun _ => False) wb1 w') (fun w' h => hfr.trans h) ?_
        clear hfr
        refine wpAnyH_take (i := 35) (oi := ⟨some 82, _, _, _, _, _⟩) (v := ?vd35) rfl (by kernel_rfl) (by kernel_rfl) (by kernel_rfl) (fun _ _ _ h => h) (Or.inl ⟨by rfl, ?yd35⟩) (Fr.refl _ _) ?rd35
        case yd35 =>
          intro wq hSw
          (try dsimp only at hSw)
          first | (go_simp; done) | (go_simp; with_reducible rfl)
        try simp only [Act.put, List.setIfInBounds_toArray, List.set_cons_zero, List.set_cons_succ]
        refine wpAnyH_take (i := 36) (oi := ⟨some 83, _, _, _, _, _⟩) (v := ?vd36) rfl (by kernel_rfl) (by kernel_rfl) (by kernel_rfl) (fun _ _ _ h => h) (Or.inl ⟨by rfl, ?yd36⟩) (Fr.refl _ _) ?rd36
        case yd36 =>
          intro wq hSw
          (try dsimp only at hSw)
          first | (go_simp; done) | (go_simp; with_reducible rfl)
        try simp only [Act.put, List.setIfInBounds_toArray, List.set_cons_zero, List.set_cons_succ]
        refine wpAnyH_take (i := 37) (oi := ⟨some 84, _, _, _, _, _⟩) (v := ?vd37) rfl (by kernel_rfl) (by kernel_rfl) (by kernel_rfl) (fun _ _ _ h => h) (Or.inl ⟨by rfl, ?yd37⟩) (Fr.refl _ _) ?rd37
        case yd37 =>
          intro wq hSw
          (try dsimp only at hSw)
          first | (go_simp; done) | (go_simp; with_reducible rfl)
        try simp only [Act.put, List.setIfInBounds_toArray, List.set_cons_zero, List.set_cons_succ]
        refine wpAnyH_take (i := 38) (oi := ⟨some 85, _, _, _, _, _⟩) (v := ?vd38) rfl (by kernel_rfl) (by kernel_rfl) (by kernel_rfl) (fun _ _ _ h => h) (Or.inl ⟨by rfl, ?yd38⟩) (Fr.refl _ _) ?rd38
        case yd38 =>
          intro wq hSw
          (try dsimp only at hSw)
          first | (go_simp; done) | (go_simp; with_reducible rfl)
        try simp only [Act.put, List.setIfInBounds_toArray, List.set_cons_zero, List.set_cons_succ]
        refine wpAnyH_take (i := 39) (oi := ⟨some 86, _, _, _, _, _⟩) (v := ?vd39) rfl (by kernel_rfl) (by kernel_rfl) (by kernel_rfl) (fun _ _ _ h => h) (Or.inl ⟨by rfl, ?yd39⟩) (Fr.refl _ _) ?rd39
        case yd39 =>
          intro wq hSw
          (try dsimp only at hSw)
          first | (go_simp; done) | (go_simp; with_reducible rfl)
        try simp only [Act.put, List.setIfInBounds_toArray, List.set_cons_zero, List.set_cons_succ]
        refine wpAnyH_take (i := 40) (oi := ⟨some 87, _, _, _, _, _⟩) (v := ?vd40) rfl (by kernel_rfl) (by kernel_rfl) (by kernel_rfl) (fun _ _ _ h => h) (Or.inl ⟨by rfl, ?yd40⟩) (Fr.refl _ _) ?rd40
        case yd40 =>
          intro wq hSw
          (try dsimp only at hSw)
          have hq := hSw.cell_some (ActB.c1 HA.out) (fun h => h)
          first | (go_simp; done) | (go_simp; with_reducible rfl)
        try simp only [Act.put, List.setIfInBounds_toArray, List.set_cons_zero, List.set_cons_succ]
        refine wpAnyH_take (i := 41) (oi := ⟨some 88, _, _, _, _, _⟩) (v := ?vd41) rfl (by kernel_rfl) (by kernel_rfl) (by kernel_rfl) (fun _ _ _ h => h) (Or.inl ⟨by rfl, ?yd41⟩) (Fr.refl _ _) ?rd41
        case yd41 =>
          intro wq hSw
          (try dsimp only at hSw)
          first | (go_simp; done) | (go_simp; with_reducible rfl)
        try simp only [Act.put, List.setIfInBounds_toArray, List.set_cons_zero, List.set_cons_succ]
        refine wpAnyH_take (i := 42) (oi := ⟨some 89, _, _, _, _, _⟩) (v := ?vd42) rfl (by kernel_rfl) (by kernel_rfl) (by kernel_rfl) (fun _ _ _ h => h) (Or.inl ⟨by rfl, ?yd42⟩) (Fr.refl _ _) ?rd42
        case yd42 =>
          intro wq hSw
          (try dsimp only at hSw)
          have hq := hSw.cell_some (ActB.c2 HA.out) (fun h => h)
          first | (go_simp; done) | (go_simp; with_reducible rfl)
        try simp only [Act.put, List.setIfInBounds_toArray, List.set_cons_zero, List.set_cons_succ]
        refine wpAnyH_take (i := 44) (oi := ⟨some 91, _, _, _, _, _⟩) (v := ?vd44) rfl (by kernel_rfl) (by kernel_rfl) (by kernel_rfl) (fun _ _ _ h => h) (Or.inl ⟨by rfl, ?yd44⟩) (Fr.refl _ _) ?rd44
        case yd44 =>
          intro wq hSw
          (try dsimp only at hSw)
          first | (go_simp; done) | (go_simp; with_reducible rfl)
        try simp only [Act.put, List.setIfInBounds_toArray, List.set_cons_zero, List.set_cons_succ]
        refine wpAnyH_take (i := 45) (oi := ⟨some 92, _, _, _, _, _⟩) (v := ?vd45) rfl (by kernel_rfl) (by kernel_rfl) (by kernel_rfl) (fun _ _ _ h => h) (Or.inl ⟨by rfl, ?yd45⟩) (Fr.refl _ _) ?rd45
        case yd45 =>
          intro wq hSw
          (try dsimp only at hSw)
          first | (go_simp; done) | (go_simp; with_reducible rfl)
        try simp only [Act.put, List.setIfInBounds_toArray, List.set_cons_zero, List.set_cons_succ]
        refine wpAnyH_take (i := 46) (oi := ⟨some 93, _, _, _, _, _⟩) (v := ?vd46) rfl (by kernel_rfl) (by kernel_rfl) (by kernel_rfl) (fun _ _ _ h => h) (Or.inl ⟨by rfl, ?yd46⟩) (Fr.refl _ _) ?rd46
        case yd46 =>
          intro wq hSw
          (try dsimp only at hSw)
          have hq := hSw.cell_some (ActB.c1 HA.out) (fun h => h)
          first | (go_simp; done) | (go_simp; with_reducible rfl)
        try simp only [Act.put, List.setIfInBounds_toArray, List.set_cons_zero, List.set_cons_succ]
        refine wpAnyH_take (i := 47) (oi := ⟨some 94, _, _, _, _, _⟩) (v := ?vd47) rfl (by kernel_rfl) (by kernel_rfl) (by kernel_rfl) (fun _ _ _ h => h) (Or.inl ⟨by rfl, ?yd47⟩) (Fr.refl _ _) ?rd47
        case yd47 =>
          intro wq hSw
          (try dsimp only at hSw)
          first | (go_simp; done) | (go_simp; with_reducible rfl)
        try simp only [Act.put, List.setIfInBounds_toArray, List.set_cons_zero, List.set_cons_succ]
        refine wpAnyH_take (i := 48) (oi := ⟨some 95, _, _, _, _, _⟩) (v := ?vd48) rfl (by kernel_rfl) (by kernel_rfl) (by kernel_rfl) (fun _ _ _ h => h) (Or.inl ⟨by rfl, ?yd48⟩) (Fr.refl _ _) ?rd48
        case yd48 =>
          intro wq hSw
          (try dsimp only at hSw)
          have hq := hSw.cell_some (ActB.c2 HA.out) (fun h => h)
          first | (go_simp; done) | (go_simp; with_reducible rfl)
        try simp only [Act.put, List.setIfInBounds_toArray, List.set_cons_zero, List.set_cons_succ]
        refine wpAnyH_ready (rs := [43]) (by kernel_rfl) (by simp) ?_
        refine AllReadyH.cons (o := ⟨some 90, _, _, _, _, _⟩) rfl (fun K hK => ?_) AllReadyH.nil
        go_simp
        refine (run_z (.pointer (some ⟨M, 0, none⟩)) n f2 at_ many hat wb1 Pwb1.out.p.mp Nwb1.out).mono ?_; rintro e wc ⟨rfl, hb⟩
        have hfr : Fr (fun _ => False) wb1 wc := Fr.of_below hb
        have Pwc := Lib.hid (Pwb1.out.later hb)
        have Bwc := Lib.hid (Bwb1.out.trans (hb.mono Bwb1.out.size))
        have Nwc := Lib.hid (HN.out.keep Bwc.out)
        have HA := Lib.hid (hfr.row_some HA.out (fun h => h))
        clear hb
        rw [← Hr1.out]
        go_wp2_with fail
        refine hK.out _ _ hfr (fun hHeld => ?_)
        clear hK K hHeld
        try simp only [Act.put, List.setIfInBounds_toArray, List.set_cons_zero, List.set_cons_succ]
        refine wpAnyH_re (S' := fun w' => Fr (fun _ => False) wc w') (fun w' h => hfr.trans h) ?_
        clear hfr
        refine wpAnyH_ready (rs := [49]) (by kernel_rfl) (by simp) ?_
        refine AllReadyH.cons (o := ⟨some 96, _, _, _, _, _⟩) rfl (fun K hK => ?_) AllReadyH.nil
        go_simp
        refine (rmprun_any X n f2 A2 at_ many hmy1 hmy wc Pwc.out.x).mono ?_; rintro e wd ⟨rfl, hb⟩
        have hfr : Fr (fun _ => False) wc wd := Fr.of_below hb
        have Pwd := Lib.hid (Pwc.out.later hb)
        have Bwd := Lib.hid (Bwc.out.trans (hb.mono Bwc.out.size))
        have Nwd := Lib.hid (HN.out.keep Bwd.out)
        have HA := Lib.hid (hfr.row_some HA.out (fun h => h))
        clear hb
        rw [← Hr1.out]
        go_wp2_with fail
        refine hK.out _ _ hfr (fun hHeld => ?_)
        clear hK K hHeld
        try simp only [Act.put, List.setIfInBounds_toArray, List.set_cons_zero, List.set_cons_succ]
        refine wpAnyH_re (S' := fun w' => Fr (fun _ => False) wd w') (fun w' h => hfr.trans h) ?_
        clear hfr
        refine wpAnyH_take (i := 50) (oi := ⟨some 97, _, _, _, _, _⟩) (v := ?vd50) rfl (by kernel_rfl) (by kernel_rfl) (by kernel_rfl) (fun _ _ _ h => h) (Or.inl ⟨by rfl, ?yd50⟩) (Fr.refl _ _) ?rd50
        case yd50 =>
          intro wq hSw
          (try dsimp only at hSw)
          first | (go_simp; done) | (go_simp; with_reducible rfl)
        try simp only [Act.put, List.setIfInBounds_toArray, List.set_cons_zero, List.set_cons_succ]
        refine wpAnyH_take (i := 51) (oi := ⟨some 98, _, _, _, _, _⟩) (v := ?vd51) rfl (by kernel_rfl) (by kernel_rfl) (by kernel_rfl) (fun _ _ _ h => h) (Or.inl ⟨by rfl, ?yd51⟩) (Fr.refl _ _) ?rd51
        case yd51 =>
          intro wq hSw
          (try dsimp only at hSw)
          first | (go_simp; done) | (go_simp; with_reducible rfl)
        try simp only [Act.put, List.setIfInBounds_toArray, List.set_cons_zero, List.set_cons_succ]
        refine wpAnyH_take (i := 52) (oi := ⟨some 99, _, _, _, _, _⟩) (v := ?vd52) rfl (by kernel_rfl) (by kernel_rfl) (by kernel_rfl) (fun _ _ _ h => h) (Or.inl ⟨by rfl, ?yd52⟩) (Fr.refl _ _) ?rd52
        case yd52 =>
          intro wq hSw
          (try dsimp only at hSw)
          first | (go_simp; done) | (go_simp; with_reducible rfl)
        try simp only [Act.put, List.setIfInBounds_toArray, List.set_cons_zero, List.set_cons_succ]
        refine wpAnyH_take (i := 53) (oi := ⟨some 100, _, _, _, _, _⟩) (v := ?vd53) rfl (by kernel_rfl) (by kernel_rfl) (by kernel_rfl) (fun _ _ _ h => h) (Or.inl ⟨by rfl, ?yd53⟩) (Fr.refl _ _) ?rd53
        case yd53 =>
          intro wq hSw
          (try dsimp only at hSw)
          first | (go_simp; done) | (go_simp; with_reducible rfl)
        try simp only [Act.put, List.setIfInBounds_toArray, List.set_cons_zero, List.set_cons_succ]
        refine wpAnyH_take (i := 54) (oi := ⟨some 101, _, _, _, _, _⟩) (v := ?vd54) rfl (by kernel_rfl) (by kernel_rfl) (by kernel_rfl) (fun _ _ _ h => h) (Or.inl ⟨by rfl, ?yd54⟩) (Fr.refl _ _) ?rd54
        case yd54 =>
          intro wq hSw
          (try dsimp only at hSw)
          first | (go_simp; done) | (go_simp; with_reducible rfl)
        try simp only [Act.put, List.setIfInBounds_toArray, List.set_cons_zero, List.set_cons_succ]
        refine wpAnyH_take (i := 55) (oi := ⟨some 102, _, _, _, _, _⟩) (v := ?vd55) rfl (by kernel_rfl) (by kernel_rfl) (by kernel_rfl) (fun _ _ _ h => h) (Or.inl ⟨by rfl, ?yd55⟩) (Fr.refl _ _) ?rd55
        case yd55 =>
          intro wq hSw
          (try dsimp only at hSw)
          have hq := hSw.cell_some (ActB.c2 HA.out) (fun h => h)
          first | (go_simp; done) | (go_simp; with_reducible rfl)
        try simp only [Act.put, List.setIfInBounds_toArray, List.set_cons_zero, List.set_cons_succ]
        refine wpAnyH_take (i := 57) (oi := ⟨some 104, _, _, _, _, _⟩) (v := ?vd57) rfl (by kernel_rfl) (by kernel_rfl) (by kernel_rfl) (fun _ _ _ h => h) (Or.inl ⟨by rfl, ?yd57⟩) (Fr.refl _ _) ?rd57
        case yd57 =>
          intro wq hSw
          (try dsimp only at hSw)
          first | (go_simp; done) | (go_simp; with_reducible rfl)
        try simp only [Act.put, List.setIfInBounds_toArray, List.set_cons_zero, List.set_cons_succ]
        refine wpAnyH_take (i := 58) (oi := ⟨some 105, _, _, _, _, _⟩) (v := ?vd58) rfl (by kernel_rfl) (by kernel_rfl) (by kernel_rfl) (fun _ _ _ h => h) (Or.inl ⟨by rfl, ?yd58⟩) (Fr.refl _ _) ?rd58
        case yd58 =>
          intro wq hSw
          (try dsimp only at hSw)
          first | (go_simp; done) | (go_simp; with_reducible rfl)
        try simp only [Act.put, List.setIfInBounds_toArray, List.set_cons_zero, List.set_cons_succ]
        refine wpAnyH_take (i := 59) (oi := ⟨some 106, _, _, _, _, _⟩) (v := ?vd59) rfl (by kernel_rfl) (by kernel_rfl) (by kernel_rfl) (fun _ _ _ h => h) (Or.inl ⟨by rfl, ?yd59⟩) (Fr.refl _ _) ?rd59
        case yd59 =>
          intro wq hSw
          (try dsimp only at hSw)
          have hq := hSw.cell_some (ActB.c2 HA.out) (fun h => h)
          first | (go_simp; done) | (go_simp; with_reducible rfl)
        try simp only [Act.put, List.setIfInBounds_toArray, List.set_cons_zero, List.set_cons_succ]
        refine wpAnyH_ready (rs := [56]) (by kernel_rfl) (by simp) ?_
        refine AllReadyH.cons (o := ⟨some 103, _, _, _, _, _⟩) rfl (fun K hK => ?_) AllReadyH.nil
        go_simp
        refine (least_z (.pointer (some ⟨M, 0, none⟩)) n f2 many hmy wd Pwd.out.p.mp Nwd.out).mono ?_; rintro e we ⟨A7, c7, rfl, ho7, hb, -⟩
        have hs7 := ho7.sl
        rw [← Hl1.out, ← Hq1.out] at hs7 ⊢
        have S7 := Lib.hid hs7
        clear hs7 ho7
        have hfr : Fr (fun _ => False) wd we := Fr.of_below hb
        have Pwe := Lib.hid (Pwd.out.later hb)
        have Bwe := Lib.hid (Bwd.out.trans (hb.mono Bwd.out.size))
        have Nwe := Lib.hid (HN.out.keep Bwe.out)
        have HA := Lib.hid (hfr.row_some HA.out (fun h => h))
        clear hb
        go_wp2_with fail
        refine hK.out _ _ hfr (fun hHeld => ?_)
        clear hK K hHeld
        try simp only [Act.put, List.setIfInBounds_toArray, List.set_cons_zero, List.set_cons_succ]
        refine wpAnyH_re (S' := fun w' => Fr (fun _ => False) we w') (fun w' h => hfr.trans h) ?_
        clear hfr
        refine wpAnyH_ready (rs := [60]) (by kernel_rfl) (by simp) ?_
        refine AllReadyH.cons (o := ⟨some 107, _, _, _, _, _⟩) rfl (fun K hK => ?_) AllReadyH.nil
        go_simp
        refine (rmpleast_any X n f2 A2 many we Pwe.out.x).mono ?_; rintro e wf ⟨A8, c8, rfl, hs8, hb⟩
        rw [← Hl1.out, ← Hq1.out] at hs8 ⊢
        have S8 := Lib.hid hs8
        have S7 := Lib.hid (S7.out.below hb (Nat.le_refl _))
        clear hs8
        have hfr : Fr (fun _ => False) we wf := Fr.of_below hb
        have Pwf := Lib.hid (Pwe.out.later hb)
        have Bwf := Lib.hid (Bwe.out.trans (hb.mono Bwe.out.size))
        have Nwf := Lib.hid (HN.out.keep Bwf.out)
        have HA := Lib.hid (hfr.row_some HA.out (fun h => h))
        clear hb
        go_wp2_with fail
        refine hK.out _ _ hfr (fun hHeld => ?_)
        clear hK K hHeld
        try simp only [Act.put, List.setIfInBounds_toArray, List.set_cons_zero, List.set_cons_succ]
        refine wpAnyH_re (S' := fun w' => Fr (fun _ => False) wf w') (fun w' h => hfr.trans h) ?_
        clear hfr
        refine wpAnyH_ready (rs := [61]) (by kernel_rfl) (by simp) ?_
        refine AllReadyH.cons (o := ⟨some 108, _, _, _, _, _⟩) rfl (fun K hK => ?_) AllReadyH.nil
        go_simp
        have hins := rints_any A7 q1 c7 l1 A8 q1 c8 l1 wf S7.out S8.out
        rw [show decide (l1 = l1) = true by simp] at hins
        refine (hins).mono ?_; rintro e wg ⟨rfl, hb⟩
        have hfr : Fr (fun _ => False) wf wg := Fr.of_below hb
        have Pwg := Lib.hid (Pwf.out.later hb)
        have Bwg := Lib.hid (Bwf.out.trans (hb.mono Bwf.out.size))
        have Nwg := Lib.hid (HN.out.keep Bwg.out)
        have HA := Lib.hid (hfr.row_some HA.out (fun h => h))
        clear hb
        go_wp2_with fail
        refine hK.out _ _ hfr (fun hHeld => ?_)
        clear hK K hHeld
        try simp only [Act.put, List.setIfInBounds_toArray, List.set_cons_zero, List.set_cons_succ]
        refine wpAnyH_re (S' := fun w' => Fr (fun _ => False) wg w') (fun w' h => hfr.trans h) ?_
        clear hfr
        refine wpAnyH_take (i := 62) (oi := ⟨some 109, _, _, _, _, _⟩) (v := ?vd62) rfl (by kernel_rfl) (by kernel_rfl) (by kernel_rfl) (fun _ _ _ h => h) (Or.inl ⟨by rfl, ?yd62⟩) (Fr.refl _ _) ?rd62
        case yd62 =>
          intro wq hSw
          (try dsimp only at hSw)
          first | (go_simp; done) | (go_simp; with_reducible rfl)
        try simp only [Act.put, List.setIfInBounds_toArray, List.set_cons_zero, List.set_cons_succ]
        refine wpAnyH_take (i := 63) (oi := ⟨some 110, _, _, _, _, _⟩) (v := ?vd63) rfl (by kernel_rfl) (by kernel_rfl) (by kernel_rfl) (fun _ _ _ h => h) (Or.inl ⟨by rfl, ?yd63⟩) (Fr.refl _ _) ?rd63
        case yd63 =>
          intro wq hSw
          (try dsimp only at hSw)
          first | (go_simp; done) | (go_simp; with_reducible rfl)
        try simp only [Act.put, List.setIfInBounds_toArray, List.set_cons_zero, List.set_cons_succ]
        refine wpAnyH_done (by kernel_rfl) ?_ _
        go_wp2_with fail
        go_roundw
        case rel => exact ⟨j + 1, M, B, f2, A2, by omega, by go_num, rfl, Pwg.out, Bwg.out⟩
        case measure => simp [intOf]; omega
    · have hji : ¬ (j : Int) < (q : Int) := by omega
      go_wp2_with fail
      obtain ⟨l1, hl1⟩ : ∃ y, y = plc n 0 f true := ⟨_, rfl⟩
      obtain ⟨q1, hq1⟩ : ∃ y, y = l1.length := ⟨_, rfl⟩
      obtain ⟨cx, hrow, hsl⟩ := P.out.x.ex
      rw [show cntL n f = q1 by rw [hq1, hl1]; rfl, ← hl1] at hsl
      rw [show cntL n f = q1 by rw [hq1, hl1]; rfl] at hrow
      have S8 := Lib.hid hsl
      have CX := Lib.hid (show wr.cell? ⟨X, 1, none⟩ = some (.slice A q1 cx) by rw [cell_of_row _ _ _ _ _ _ hrow]; rfl)
      have Hl1 := Lib.hid hl1
      have Hq1 := Lib.hid hq1
      clear hl1 hq1 hrow hsl
      refine wp_region_held_drew (S := fun w' => Fr (fun _ => False) wr.drew w') (by kernel_rfl) (Fr.refl _ _) (fun hHeld => ?_)
      clear hHeld
      refine wpAnyH_take (i := 0) (oi := ⟨some 111, _, _, _, _, _⟩) (v := ?vz0) rfl (by kernel_rfl) (by kernel_rfl) (by kernel_rfl) (fun _ _ _ h => h) (Or.inl ⟨by rfl, ?yz0⟩) (Fr.refl _ _) ?rz0
      case yz0 =>
        intro wq hSw
        (try dsimp only at hSw)
        first | (go_simp; done) | (go_simp; with_reducible rfl)
      try simp only [Act.put, List.setIfInBounds_toArray, List.set_cons_zero, List.set_cons_succ]
      refine wpAnyH_take (i := 2) (oi := ⟨some 113, _, _, _, _, _⟩) (v := ?vz2) rfl (by kernel_rfl) (by kernel_rfl) (by kernel_rfl) (fun _ _ _ h => h) (Or.inl ⟨by rfl, ?yz2⟩) (Fr.refl _ _) ?rz2
      case yz2 =>
        intro wq hSw
        (try dsimp only at hSw)
        first | (go_simp; done) | (go_simp; with_reducible rfl)
      try simp only [Act.put, List.setIfInBounds_toArray, List.set_cons_zero, List.set_cons_succ]
      refine wpAnyH_take (i := 3) (oi := ⟨some 114, _, _, _, _, _⟩) (v := ?vz3) rfl (by kernel_rfl) (by kernel_rfl) (by kernel_rfl) (fun _ _ _ h => h) (Or.inl ⟨by rfl, ?yz3⟩) (Fr.refl _ _) ?rz3
      case yz3 =>
        intro wq hSw
        (try dsimp only at hSw)
        first | (go_simp; done) | (go_simp; with_reducible rfl)
      try simp only [Act.put, List.setIfInBounds_toArray, List.set_cons_zero, List.set_cons_succ]
      refine wpAnyH_take (i := 4) (oi := ⟨some 115, _, _, _, _, _⟩) (v := ?vz4) rfl (by kernel_rfl) (by kernel_rfl) (by kernel_rfl) (fun _ _ _ h => h) (Or.inl ⟨by rfl, ?yz4⟩) (Fr.refl _ _) ?rz4
      case yz4 =>
        intro wq hSw
        (try dsimp only at hSw)
        first | (go_simp; done) | (go_simp; with_reducible rfl)
      try simp only [Act.put, List.setIfInBounds_toArray, List.set_cons_zero, List.set_cons_succ]
      refine wpAnyH_take (i := 5) (oi := ⟨some 116, _, _, _, _, _⟩) (v := ?vz5) rfl (by kernel_rfl) (by kernel_rfl) (by kernel_rfl) (fun _ _ _ h => h) (Or.inl ⟨by rfl, ?yz5⟩) (Fr.refl _ _) ?rz5
      case yz5 =>
        intro wq hSw
        (try dsimp only at hSw)
        have hq := hSw.cell_some CX.out (fun h => h)
        first | (go_simp; done) | (go_simp; with_reducible rfl)
      try simp only [Act.put, List.setIfInBounds_toArray, List.set_cons_zero, List.set_cons_succ]
      refine wpAnyH_ready (rs := [1]) (by kernel_rfl) (by simp) ?_
      refine AllReadyH.cons (o := ⟨some 112, _, _, _, _, _⟩) rfl (fun K hK => ?_) AllReadyH.nil
      go_simp
      refine (list_any (.pointer (some ⟨M, 0, none⟩)) n f wr.drew (P.out.later (Below.drew (Below.refl _ _))).p.mp (HN.out.keep (Bb.out.trans ((Below.drew (Below.refl _ _)).mono Bb.out.size)))).mono ?_; rintro e wa ⟨A7, c7, rfl, ho7, hb, -⟩
      have hfr : Fr (fun _ => False) wr.drew wa := Fr.of_below hb
      have hs7 := ho7.sl
      rw [← Hl1.out, ← Hq1.out] at hs7 ⊢
      have S7 := Lib.hid hs7
      have Bwa := Lib.hid (show Below W.heap.size W wa from (Bb.out.trans ((Below.drew (Below.refl _ _)).mono Bb.out.size)).trans (hb.mono (show W.heap.size ≤ wr.drew.heap.size from Bb.out.size)))
      have Pwa := Lib.hid ((P.out.later (Below.drew (Below.refl _ _))).later hb)
      have CX := Lib.hid (hfr.cell_some CX.out (fun h => h))
      have S8 := Lib.hid (show Sl wa 1 A q1 cx (ncells l1) from (S8.out.below (Below.drew (Below.refl _ _)) (Nat.le_refl _)).below hb (Nat.le_refl _))
      clear hs7 ho7 hb
      go_wp2_with fail
      refine hK.out _ _ hfr (fun hHeld => ?_)
      clear hK K hHeld
      try simp only [Act.put, List.setIfInBounds_toArray, List.set_cons_zero, List.set_cons_succ]
      refine wpAnyH_re (S' := fun w' => Fr (fun _ => False) wa w') (fun w' h => hfr.trans h) ?_
      clear hfr
      refine wpAnyH_ready (rs := [6]) (by kernel_rfl) (by simp) ?_
      refine AllReadyH.cons (o := ⟨some 117, _, _, _, _, _⟩) rfl (fun K hK => ?_) AllReadyH.nil
      go_simp
      have hins := rints_any A7 q1 c7 l1 A q1 cx l1 wa S7.out S8.out
      rw [show decide (l1 = l1) = true by simp] at hins
      refine hins.mono ?_; rintro e wb1 ⟨rfl, hb⟩
      have hfr : Fr (fun _ => False) wa wb1 := Fr.of_below hb
      have Pwb := Lib.hid (Pwa.out.later hb)
      have Bwb := Lib.hid (Bwa.out.trans (hb.mono Bwa.out.size))
      clear hb hins
      go_wp2_with fail
      refine hK.out _ _ hfr (fun hHeld => ?_)
      clear hK K hHeld
      try simp only [Act.put, List.setIfInBounds_toArray, List.set_cons_zero, List.set_cons_succ]
      refine wpAnyH_re (S' := fun w' => Fr (fun _ => False) wb1 w') (fun w' h => hfr.trans h) ?_
      clear hfr
      refine wpAnyH_take (i := 7) (oi := ⟨some 118, _, _, _, _, _⟩) (v := ?vz7) rfl (by kernel_rfl) (by kernel_rfl) (by kernel_rfl) (fun _ _ _ h => h) (Or.inl ⟨by rfl, ?yz7⟩) (Fr.refl _ _) ?rz7
      case yz7 =>
        intro wq hSw
        (try dsimp only at hSw)
        first | (go_simp; done) | (go_simp; with_reducible rfl)
      try simp only [Act.put, List.setIfInBounds_toArray, List.set_cons_zero, List.set_cons_succ]
      refine wpAnyH_take (i := 8) (oi := ⟨some 119, _, _, _, _, _⟩) (v := ?vz8) rfl (by kernel_rfl) (by kernel_rfl) (by kernel_rfl) (fun _ _ _ h => h) (Or.inl ⟨by rfl, ?yz8⟩) (Fr.refl _ _) ?rz8
      case yz8 =>
        intro wq hSw
        (try dsimp only at hSw)
        first | (go_simp; done) | (go_simp; with_reducible rfl)
      try simp only [Act.put, List.setIfInBounds_toArray, List.set_cons_zero, List.set_cons_succ]
      refine wpAnyH_take (i := 10) (oi := ⟨some 121, _, _, _, _, _⟩) (v := ?vz10) rfl (by kernel_rfl) (by kernel_rfl) (by kernel_rfl) (fun _ _ _ h => h) (Or.inl ⟨by rfl, ?yz10⟩) (Fr.refl _ _) ?rz10
      case yz10 =>
        intro wq hSw
        (try dsimp only at hSw)
        first | (go_simp; done) | (go_simp; with_reducible rfl)
      try simp only [Act.put, List.setIfInBounds_toArray, List.set_cons_zero, List.set_cons_succ]
      refine wpAnyH_ready (rs := [9]) (by kernel_rfl) (by simp) ?_
      refine AllReadyH.cons (o := ⟨some 120, _, _, _, _, _⟩) rfl (fun K hK => ?_) AllReadyH.nil
      go_simp
      refine (mlen_any (.pointer (some ⟨M, 0, none⟩)) n f wb1 Pwb.out.p.mp).mono ?_; rintro e wz ⟨rfl, hwz⟩
      obtain rfl : wb1 = wz := hwz.symm
      have hfr : Fr (fun _ => False) wb1 wb1 := Fr.refl _ _
      go_wp2_with fail
      refine hK.out _ _ hfr (fun hHeld => ?_)
      clear hK K hHeld
      try simp only [Act.put, List.setIfInBounds_toArray, List.set_cons_zero, List.set_cons_succ]
      refine wpAnyH_re (S' := fun w' => Fr (fun _ => False) wb1 w') (fun w' h => hfr.trans h) ?_
      clear hfr
      refine wpAnyH_take (i := 11) (oi := ⟨some 122, _, _, _, _, _⟩) (v := ?vz11) rfl (by kernel_rfl) (by kernel_rfl) (by kernel_rfl) (fun _ _ _ h => h) (Or.inl ⟨by rfl, ?yz11⟩) (Fr.refl _ _) ?rz11
      case yz11 =>
        intro wq hSw
        (try dsimp only at hSw)
        first | (go_simp; done) | (go_simp; with_reducible rfl)
      try simp only [Act.put, List.setIfInBounds_toArray, List.set_cons_zero, List.set_cons_succ]
      refine wpAnyH_take (i := 12) (oi := ⟨some 123, _, _, _, _, _⟩) (v := ?vz12) rfl (by kernel_rfl) (by kernel_rfl) (by kernel_rfl) (fun _ _ _ h => h) (Or.inl ⟨by rfl, ?yz12⟩) (Fr.refl _ _) ?rz12
      case yz12 =>
        intro wq hSw
        (try dsimp only at hSw)
        first | (go_simp; done) | (go_simp; with_reducible rfl)
      try simp only [Act.put, List.setIfInBounds_toArray, List.set_cons_zero, List.set_cons_succ]
      refine wpAnyH_take (i := 13) (oi := ⟨some 124, _, _, _, _, _⟩) (v := ?vz13) rfl (by kernel_rfl) (by kernel_rfl) (by kernel_rfl) (fun _ _ _ h => h) (Or.inl ⟨by rfl, ?yz13⟩) (Fr.refl _ _) ?rz13
      case yz13 =>
        intro wq hSw
        (try dsimp only at hSw)
        first | (go_simp; done) | (go_simp; with_reducible rfl)
      try simp only [Act.put, List.setIfInBounds_toArray, List.set_cons_zero, List.set_cons_succ]
      refine wpAnyH_ready (rs := [14]) (by kernel_rfl) (by simp) ?_
      refine AllReadyH.cons (o := ⟨some 125, _, _, _, _, _⟩) rfl (fun K hK => ?_) AllReadyH.nil
      go_simp
      refine (tk12_at HN.out Bwb.out).mono ?_; rintro e wc ⟨rfl, hb⟩
      have hfr : Fr (fun _ => False) wb1 wc := Fr.of_below hb
      have Bwc := Lib.hid (Bwb.out.trans (hb.mono Bwb.out.size))
      clear hb
      go_wp2_with fail
      refine hK.out _ _ hfr (fun hHeld => ?_)
      clear hK K hHeld
      try simp only [Act.put, List.setIfInBounds_toArray, List.set_cons_zero, List.set_cons_succ]
      refine wpAnyH_re (S' := fun w' => Fr (fun _ => False) wc w') (fun w' h => hfr.trans h) ?_
      clear hfr
      refine wpAnyH_take (i := 15) (oi := ⟨some 126, _, _, _, _, _⟩) (v := ?vz15) rfl (by kernel_rfl) (by kernel_rfl) (by kernel_rfl) (fun _ _ _ h => h) (Or.inl ⟨by rfl, ?yz15⟩) (Fr.refl _ _) ?rz15
      case yz15 =>
        intro wq hSw
        (try dsimp only at hSw)
        first | (go_simp; done) | (go_simp; with_reducible rfl)
      try simp only [Act.put, List.setIfInBounds_toArray, List.set_cons_zero, List.set_cons_succ]
      refine wpAnyH_take (i := 16) (oi := ⟨some 4, _, _, _, _, _⟩) (v := ?vz16) rfl (by kernel_rfl) (by kernel_rfl) (by kernel_rfl) (fun _ _ _ h => h) (Or.inl ⟨by rfl, ?yz16⟩) (Fr.refl _ _) ?rz16
      case yz16 =>
        intro wq hSw
        (try dsimp only at hSw)
        first | (go_simp; done) | (go_simp; with_reducible rfl)
      try simp only [Act.put, List.setIfInBounds_toArray, List.set_cons_zero, List.set_cons_succ]
      refine wpAnyH_done (by kernel_rfl) ?_ _
      go_wp2_with fail
      go_ret
      exact ⟨by first | rfl | simp, Bwc.out⟩
end Go.Proofs.YthkflghekgbgcaaDoor
