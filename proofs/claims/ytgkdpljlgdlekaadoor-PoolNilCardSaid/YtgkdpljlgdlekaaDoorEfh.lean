/-
  Contracts of package pool's Gens, Begin, Epoch and Copy. No condition but bounds. (Written by gen_efh.py.)
-/
import Derived.Test.YtgkdpljlgdlekaaDoorEfg
namespace Go.Proofs.YtgkdpljlgdlekaaDoor
open Go.RowKit Go.Proofs
set_option linter.unusedVariables false
set_option maxRecDepth 20000
set_option maxHeartbeats 400000

theorem gen14_any (a : Nat) (ha : a < 1099511627776) (w : World) :
    Calls Tryd.prog 48 #[.int .u64 (a : Int), .int .i64 0] w fun e w' => e = .returned (.tuple #[.int .u64 ((a * 1048576 : Nat) : Int), .int .i64 0]) ∧ w' = w := by
  have d1 : ¬ (a : Int) ≥ 1099511627776 := by omega
  go_enter Tryd.func48, Tryd.ntmps48
  go_wp2_with fail
  go_ret2
  exact ⟨ret2_eq (by omega) rfl, rfl⟩
/-- The pool's row, when its count or its epoch turns. -/
theorem PlAt.told {w : World} {P M B M2 B2 : Nat} {p : Ps} (h : PlAt w P M B M2 B2 p) (t : Nat) (ht : t ≤ 1048576) : PlAt (w.setCell ⟨P, 1, none⟩ (.int .i64 (t : Int))) P M B M2 B2 { p with t := t } := by
  have hf : Fr (fun b => b = P) w (w.setCell ⟨P, 1, none⟩ (.int .i64 (t : Int))) := (Fr.refl (fun b => b = P) w).setCell (p := ⟨P, 1, none⟩) (.inr rfl) _
  refine ⟨?_, h.busy.fr hf (fun e => h.pm e.symm) (fun e => h.pb e.symm), h.limbo.fr hf (fun e => h.pm2 e.symm) (fun e => h.pb2 e.symm), ⟨h.ok.n1, h.ok.n2, h.ok.a2, ht, h.ok.e2, h.ok.sub⟩, h.pb, h.pb2, h.mb2, h.bm2, h.bb2, h.pm, h.pm2⟩
  exact heap_setCell_same w P 1 _ _ _ h.row
theorem PlAt.begun {w : World} {P M B M2 B2 : Nat} {p : Ps} (h : PlAt w P M B M2 B2 p) (e : Nat) (he : e < 1099511627776) : PlAt (w.setCells P 0 [.int .u64 (e : Int), .int .i64 0]) P M B M2 B2 { p with e := e, t := 0 } := by
  have hf : Fr (fun b => b = P) w (w.setCells P 0 [.int .u64 (e : Int), .int .i64 0]) := (Fr.refl _ _).setCells _ rfl
  refine ⟨?_, h.busy.fr hf (fun e => h.pm e.symm) (fun e => h.pb e.symm), h.limbo.fr hf (fun e => h.pm2 e.symm) (fun e => h.pb2 e.symm), ⟨h.ok.n1, h.ok.n2, h.ok.a2, Nat.zero_le _, he, h.ok.sub⟩, h.pb, h.pb2, h.mb2, h.bm2, h.bb2, h.pm, h.pm2⟩
  have e0 := heap_setCell_same w P 0 _ _ (.int .u64 (e : Int)) h.row
  exact heap_setCell_same _ P 1 _ _ (.int .i64 0) e0
/-- What a call answers that refuses. -/
def Ref14 (w : World) (n : Nat) (e : Ending) (w' : World) : Prop := e = .returned (.tuple #[.int .u64 0, .int .i64 (n : Int)]) ∧ w' = w
def RetGens (S : Nat → Prop) (R : World → Ps → Prop) (p : Ps) (n : Int) (w : World) (e : Ending) (w' : World) : Prop := e = .returned (.tuple #[.int .u64 ((p.e * 1048576 + p.t : Nat) : Int), .int .i64 0]) ∧ R w' { p with t := p.t + n.toNat } ∧ Fr S w w'
theorem tell_neg (P : Nat) (n : Int) (d1 : n < 0) (w : World) :
    Calls Tryd.prog 38 #[.pointer (some ⟨P, 0, none⟩), .int .i64 n] w (Ref14 w 2) := by
  go_enter Tryd.func38, Tryd.ntmps38
  go_wp2_with fail
  go_ret2
  exact ⟨rfl, rfl⟩
theorem tell_few (P M B M2 B2 : Nat) (p : Ps) (n : Int) (d1 : ¬ n < 0) (d2 : (1048576 : Int) - (p.t : Int) < n) (w : World) (h : PlAt w P M B M2 B2 p) :
    Calls Tryd.prog 38 #[.pointer (some ⟨P, 0, none⟩), .int .i64 n] w (Ref14 w 140) := by
  have ht := h.ok.t2
  have hc1 := h.c1
  clear h
  go_enter Tryd.func38, Tryd.ntmps38
  go_wp2_with fail
  go_ret2
  exact ⟨rfl, rfl⟩
theorem tell_yes (P M B M2 B2 : Nat) (p : Ps) (n : Int) (d1 : ¬ n < 0) (d2 : ¬ (1048576 : Int) - (p.t : Int) < n) (w : World) (h : PlAt w P M B M2 B2 p) :
    Calls Tryd.prog 38 #[.pointer (some ⟨P, 0, none⟩), .int .i64 n] w (RetGens (fun b => b = P) (fun w' q => PlAt w' P M B M2 B2 q) p n w) := by
  have ht := h.ok.t2
  have he := h.ok.e2
  have hc0 := h.c0
  have hc1 := h.c1
  have hfz := h.free 1
  have hg := gen14_any p.e he w
  have H := Lib.hid h
  clear h
  have HT := Lib.hid (H.out.told (p.t + n.toNat) (by omega))
  have HW := Lib.hid (show IntKind.i64.wrap ((p.t : Int) + n) = ((p.t + n.toNat : Nat) : Int) from by rw [IntKind.wrap_i64]; omega)
  have HF := Lib.hid (show Fr (fun b => b = P) w (w.setCell ⟨P, 1, none⟩ (.int .i64 ((p.t + n.toNat : Nat) : Int))) from (Fr.refl (fun b => b = P) w).setCell (p := ⟨P, 1, none⟩) (.inr rfl) _)
  have HG := Lib.hid (show ((p.t + n.toNat : Nat) : Int) = (p.t : Int) + n from by omega)
  rw [HG.out] at HT HF
  unfold RetGens
  go_enter Tryd.func38, Tryd.ntmps38
  go_wp2_with fail
  refine hg.mono ?_; clear hg; rintro e w1 ⟨rfl, hw1⟩
  obtain rfl : w = w1 := hw1.symm
  go_wp2_with fail
  go_ret2
  exact ⟨ret2_eq (by omega) rfl, HT.out, HF.out⟩
theorem gens_no (v : Value) (n : Int) (w : World) (h : No14 w v) :
    Calls Tryd.prog 17 #[v, .int .i64 n] w fun e w' => e = .returned (.tuple #[.int .u64 0, .int .i64 1]) ∧ w' = w := by
  have hm := h.made
  clear h
  go_enter Tryd.func17, Tryd.ntmps17
  go_wp2_with fail
  refine hm.mono ?_; clear hm; rintro e w1 ⟨rfl, hw1⟩
  obtain rfl : w = w1 := hw1.symm
  go_wp2_with fail
  go_ret2
  exact ⟨rfl, rfl⟩
/-- What Gens answers of a pool that New made. -/
def RetGens14 (S : Nat → Prop) (P : Nat) (p : Ps) (n : Int) (w : World) (e : Ending) (w' : World) : Prop :=
  (n < 0 ∧ Ref14 w 2 e w') ∨ (¬ n < 0 ∧ (1048576 : Int) - (p.t : Int) < n ∧ Ref14 w 140 e w') ∨ (0 ≤ n ∧ n ≤ (1048576 : Int) - (p.t : Int) ∧ RetGens S (fun w' q => Pl w' S P q) p n w e w')
theorem gens_any (S : Nat → Prop) (P : Nat) (p : Ps) (n : Int) (w : World) (h : Pl w S P p) :
    Calls Tryd.prog 17 #[.pointer (some ⟨P, 0, none⟩), .int .i64 n] w (RetGens14 S P p n w) := by
  obtain ⟨M, B, M2, B2, rfl, hp⟩ := h
  have hm := pmade_yes P M w hp.c3
  by_cases d1 : n < 0
  · have ht := tell_neg P n d1 w
    clear hp
    go_enter Tryd.func17, Tryd.ntmps17
    go_wp2_with fail
    refine hm.mono ?_; clear hm; rintro e w1 ⟨rfl, hw1⟩
    obtain rfl : w = w1 := hw1.symm
    go_wp2_with fail
    refine ht.mono ?_; clear ht; rintro e w1 ⟨rfl, hw1⟩
    obtain rfl : w = w1 := hw1.symm
    go_wp2_with fail
    go_ret2
    exact .inl ⟨d1, rfl, rfl⟩
  by_cases d2 : (1048576 : Int) - (p.t : Int) < n
  · have ht := tell_few P M B M2 B2 p n d1 d2 w hp
    have D2 := Lib.hid d2
    clear hp d2
    go_enter Tryd.func17, Tryd.ntmps17
    go_wp2_with fail
    refine hm.mono ?_; clear hm; rintro e w1 ⟨rfl, hw1⟩
    obtain rfl : w = w1 := hw1.symm
    go_wp2_with fail
    refine ht.mono ?_; clear ht; rintro e w1 ⟨rfl, hw1⟩
    obtain rfl : w = w1 := hw1.symm
    go_wp2_with fail
    go_ret2
    exact .inr (.inl ⟨by omega, D2.out, rfl, rfl⟩)
  · have ht := tell_yes P M B M2 B2 p n d1 d2 w hp
    have D2 := Lib.hid d2
    have D1 := Lib.hid d1
    unfold RetGens at ht
    obtain ⟨z, hz⟩ : ∃ z, z = ((p.e * 1048576 + p.t : Nat) : Int) := ⟨_, rfl⟩
    rw [← hz] at ht
    have HZ := Lib.hid hz
    clear hp d2 d1 hz
    go_enter Tryd.func17, Tryd.ntmps17
    go_wp2_with fail
    refine hm.mono ?_; clear hm; rintro e w1 ⟨rfl, hw1⟩
    obtain rfl : w = w1 := hw1.symm
    go_wp2_with fail
    refine ht.mono ?_; clear ht; rintro e w1 ⟨rfl, hp, hf⟩
    have HP := Lib.hid hp
    have HF := Lib.hid hf
    clear hp hf
    go_wp2_with fail
    go_ret2
    exact .inr (.inr ⟨by have := D1.out; omega, by have := D2.out; omega, by rw [← HZ.out]; rfl, ⟨M, B, M2, B2, rfl, HP.out⟩, HF.out.mono fun b hb => .inl hb⟩)
theorem begin_no (v : Value) (n : Nat) (w : World) (h : No14 w v) :
    Calls Tryd.prog 18 #[v, .int .u64 (n : Int)] w fun e w' => e = .returned (.int .i64 1) ∧ w' = w := by
  have hm := h.made
  clear h
  go_enter Tryd.func18, Tryd.ntmps18
  go_wp2_with fail
  refine hm.mono ?_; clear hm; rintro e w1 ⟨rfl, hw1⟩
  obtain rfl : w = w1 := hw1.symm
  go_wp2_with fail
  go_ret
  exact ⟨rfl, rfl⟩
theorem begin1_no (P M B M2 B2 : Nat) (p : Ps) (n : Nat) (d : n ≤ p.e ∨ 1099511627776 ≤ n) (w : World) (h : PlAt w P M B M2 B2 p) :
    Calls Tryd.prog 39 #[.pointer (some ⟨P, 0, none⟩), .int .u64 (n : Int)] w fun e w' => e = .returned (.int .i64 2) ∧ w' = w := by
  have hc0 := h.c0
  clear h
  by_cases d1 : (n : Int) ≤ (p.e : Int)
  · clear d
    go_enter Tryd.func39, Tryd.ntmps39
    go_wp2_with fail
    go_ret
    exact ⟨rfl, rfl⟩
  · have d2 : (n : Int) ≥ 1099511627776 := by omega
    clear d
    go_enter Tryd.func39, Tryd.ntmps39
    go_wp2_with fail
    go_ret
    exact ⟨rfl, rfl⟩
theorem begin1_yes (P M B M2 B2 : Nat) (p : Ps) (n : Nat) (d1 : p.e < n) (d2 : n < 1099511627776) (w : World) (h : PlAt w P M B M2 B2 p) :
    Calls Tryd.prog 39 #[.pointer (some ⟨P, 0, none⟩), .int .u64 (n : Int)] w fun e w' => e = .returned (.int .i64 0) ∧ PlAt w' P M B M2 B2 { p with e := n, t := 0 } ∧ Fr (fun b => b = P) w w' := by
  have hc0 := h.c0
  have hc1 := h.c1
  have hf0 := h.free 0
  have hf1 := h.free 1
  have HT := Lib.hid (h.begun n d2)
  have HF := Lib.hid ((Fr.refl (fun b => b = P) w).setCells (b := P) (o := 0) [.int .u64 (n : Int), .int .i64 0] rfl)
  have e1 : ¬ (n : Int) ≤ (p.e : Int) := by omega
  have e2 : ¬ (n : Int) ≥ 1099511627776 := by omega
  have hlt := h.ltP
  clear h d1 d2
  go_enter Tryd.func39, Tryd.ntmps39
  go_wp2_with fail
  go_ret
  exact ⟨rfl, HT.out, HF.out⟩
theorem begin_any (S : Nat → Prop) (P : Nat) (p : Ps) (n : Nat) (w : World) (h : Pl w S P p) :
    Calls Tryd.prog 18 #[.pointer (some ⟨P, 0, none⟩), .int .u64 (n : Int)] w fun e w' =>
      ((n ≤ p.e ∨ 1099511627776 ≤ n) ∧ e = .returned (.int .i64 2) ∧ w' = w) ∨ (p.e < n ∧ n < 1099511627776 ∧ e = .returned (.int .i64 0) ∧ Pl w' S P { p with e := n, t := 0 } ∧ Fr S w w') := by
  obtain ⟨M, B, M2, B2, rfl, hp⟩ := h
  have hm := pmade_yes P M w hp.c3
  by_cases d : n ≤ p.e ∨ 1099511627776 ≤ n
  · have ht := begin1_no P M B M2 B2 p n d w hp
    have D := Lib.hid d
    clear hp d
    go_enter Tryd.func18, Tryd.ntmps18
    go_wp2_with fail
    refine hm.mono ?_; clear hm; rintro e w1 ⟨rfl, hw1⟩
    obtain rfl : w = w1 := hw1.symm
    go_wp2_with fail
    refine ht.mono ?_; clear ht; rintro e w1 ⟨rfl, hw1⟩
    obtain rfl : w = w1 := hw1.symm
    go_wp2_with fail
    go_ret
    exact .inl ⟨D.out, rfl, rfl⟩
  · have ht := begin1_yes P M B M2 B2 p n (by omega) (by omega) w hp
    have D := Lib.hid d
    clear hp d
    go_enter Tryd.func18, Tryd.ntmps18
    go_wp2_with fail
    refine hm.mono ?_; clear hm; rintro e w1 ⟨rfl, hw1⟩
    obtain rfl : w = w1 := hw1.symm
    go_wp2_with fail
    refine ht.mono ?_; clear ht; rintro e w1 ⟨rfl, hp, hf⟩
    have HP := Lib.hid hp
    have HF := Lib.hid hf
    clear hp hf
    go_wp2_with fail
    go_ret
    exact .inr ⟨by have := D.out; omega, by have := D.out; omega, rfl, ⟨M, B, M2, B2, rfl, HP.out⟩, HF.out.mono fun b hb => .inl hb⟩
theorem epoch_no (v : Value) (w : World) (h : No14 w v) :
    Calls Tryd.prog 20 #[v] w fun e w' => e = .returned (.int .u64 0) ∧ w' = w := by
  have hm := h.made
  clear h
  go_enter Tryd.func20, Tryd.ntmps20
  go_wp2_with fail
  refine hm.mono ?_; clear hm; rintro e w1 ⟨rfl, hw1⟩
  obtain rfl : w = w1 := hw1.symm
  go_wp2_with fail
  go_ret
  exact ⟨rfl, rfl⟩
theorem epoch14_any (S : Nat → Prop) (P : Nat) (p : Ps) (w : World) (h : Pl w S P p) :
    Calls Tryd.prog 20 #[.pointer (some ⟨P, 0, none⟩)] w fun e w' => e = .returned (.int .u64 (p.e : Int)) ∧ w' = w := by
  obtain ⟨M, B, M2, B2, -, hp⟩ := h
  have hm := pmade_yes P M w hp.c3
  have hc0 := hp.c0
  clear hp
  go_enter Tryd.func20, Tryd.ntmps20
  go_wp2_with fail
  refine hm.mono ?_; clear hm; rintro e w1 ⟨rfl, hw1⟩
  obtain rfl : w = w1 := hw1.symm
  go_wp2_with fail
  go_ret
  exact ⟨rfl, rfl⟩
theorem pcopy_no (v : Value) (w : World) (h : No14 w v) :
    Calls Tryd.prog 21 #[v] w fun e w' => e = .returned (.pointer none) ∧ w' = w := by
  have hm := h.made
  clear h
  go_enter Tryd.func21, Tryd.ntmps21
  go_wp2_with fail
  refine hm.mono ?_; clear hm; rintro e w1 ⟨rfl, hw1⟩
  obtain rfl : w = w1 := hw1.symm
  go_wp2_with fail
  go_ret
  exact ⟨rfl, rfl⟩
theorem pcopy_any (S : Nat → Prop) (P : Nat) (p : Ps) (w : World) (h : Pl w S P p) :
    Calls Tryd.prog 21 #[.pointer (some ⟨P, 0, none⟩)] w (RetPl p w) := by
  obtain ⟨M, B, M2, B2, -, hp⟩ := h
  have hm := pmade_yes P M w hp.c3
  have HP := Lib.hid hp
  have H0 := Lib.hid hp.c0
  have H1 := Lib.hid hp.c1
  have H2 := Lib.hid hp.c2
  have H3 := Lib.hid hp.c3
  have H4 := Lib.hid hp.c4
  clear hp
  go_enter Tryd.func21, Tryd.ntmps21
  go_wp2_with fail
  refine hm.mono ?_; clear hm; rintro e w1 ⟨rfl, hw1⟩
  obtain rfl : w = w1 := hw1.symm
  go_wp2_with fail
  refine wp_region_held_drew (S := fun w' => Fr (fun _ => False) w.drew w') (by kernel_rfl) (Fr.refl _ _) (fun hHeld => ?_)
  clear hHeld
  refine wpAnyH_take (i := 0) (oi := ⟨some 6, _, _, _, _, _⟩) (v := ?vc0) rfl (by kernel_rfl) (by kernel_rfl) (by kernel_rfl) (fun _ _ _ h => h) (Or.inl ⟨by rfl, ?yc0⟩) (Fr.refl _ _) ?rc0
  case yc0 =>
    intro wq hSw
    (try dsimp only at hSw)
    first | (go_simp; done) | (go_simp; with_reducible rfl)
  try simp only [Act.put, List.setIfInBounds_toArray, List.set_cons_zero, List.set_cons_succ]
  refine wpAnyH_take (i := 1) (oi := ⟨some 7, _, _, _, _, _⟩) (v := ?vc1) rfl (by kernel_rfl) (by kernel_rfl) (by kernel_rfl) (fun _ _ _ h => h) (Or.inl ⟨by rfl, ?yc1⟩) (Fr.refl _ _) ?rc1
  case yc1 =>
    intro wq hSw
    (try dsimp only at hSw)
    first | (go_simp; done) | (go_simp; with_reducible rfl)
  try simp only [Act.put, List.setIfInBounds_toArray, List.set_cons_zero, List.set_cons_succ]
  refine wpAnyH_take (i := 2) (oi := ⟨some 8, _, _, _, _, _⟩) (v := ?vc2) rfl (by kernel_rfl) (by kernel_rfl) (by kernel_rfl) (fun _ _ _ h => h) (Or.inl ⟨by rfl, ?yc2⟩) (Fr.refl _ _) ?rc2
  case yc2 =>
    intro wq hSw
    (try dsimp only at hSw)
    first | (go_simp; done) | (go_simp; with_reducible rfl)
  try simp only [Act.put, List.setIfInBounds_toArray, List.set_cons_zero, List.set_cons_succ]
  refine wpAnyH_take (i := 3) (oi := ⟨some 9, _, _, _, _, _⟩) (v := ?vc3) rfl (by kernel_rfl) (by kernel_rfl) (by kernel_rfl) (fun _ _ _ h => h) (Or.inl ⟨by rfl, ?yc3⟩) (Fr.refl _ _) ?rc3
  case yc3 =>
    intro wq hSw
    (try dsimp only at hSw)
    have hq0 := hSw.cell_some H0.out (fun h => h)
    have hq1 := hSw.cell_some H1.out (fun h => h)
    first | (go_simp; done) | (go_simp; with_reducible rfl)
  try simp only [Act.put, List.setIfInBounds_toArray, List.set_cons_zero, List.set_cons_succ]
  refine wpAnyH_take (i := 4) (oi := ⟨some 10, _, _, _, _, _⟩) (v := ?vc4) rfl (by kernel_rfl) (by kernel_rfl) (by kernel_rfl) (fun _ _ _ h => h) (Or.inl ⟨by rfl, ?yc4⟩) (Fr.refl _ _) ?rc4
  case yc4 =>
    intro wq hSw
    (try dsimp only at hSw)
    first | (go_simp; done) | (go_simp; with_reducible rfl)
  try simp only [Act.put, List.setIfInBounds_toArray, List.set_cons_zero, List.set_cons_succ]
  refine wpAnyH_take (i := 5) (oi := ⟨some 11, _, _, _, _, _⟩) (v := ?vc5) rfl (by kernel_rfl) (by kernel_rfl) (by kernel_rfl) (fun _ _ _ h => h) (Or.inl ⟨by rfl, ?yc5⟩) (Fr.refl _ _) ?rc5
  case yc5 =>
    intro wq hSw
    (try dsimp only at hSw)
    first | (go_simp; done) | (go_simp; with_reducible rfl)
  try simp only [Act.put, List.setIfInBounds_toArray, List.set_cons_zero, List.set_cons_succ]
  refine wpAnyH_take (i := 6) (oi := ⟨some 12, _, _, _, _, _⟩) (v := ?vc6) rfl (by kernel_rfl) (by kernel_rfl) (by kernel_rfl) (fun _ _ _ h => h) (Or.inl ⟨by rfl, ?yc6⟩) (Fr.refl _ _) ?rc6
  case yc6 =>
    intro wq hSw
    (try dsimp only at hSw)
    first | (go_simp; done) | (go_simp; with_reducible rfl)
  try simp only [Act.put, List.setIfInBounds_toArray, List.set_cons_zero, List.set_cons_succ]
  refine wpAnyH_take (i := 7) (oi := ⟨some 13, _, _, _, _, _⟩) (v := ?vc7) rfl (by kernel_rfl) (by kernel_rfl) (by kernel_rfl) (fun _ _ _ h => h) (Or.inl ⟨by rfl, ?yc7⟩) (Fr.refl _ _) ?rc7
  case yc7 =>
    intro wq hSw
    (try dsimp only at hSw)
    have hq := hSw.cell_some H2.out (fun h => h)
    first | (go_simp; done) | (go_simp; with_reducible rfl)
  try simp only [Act.put, List.setIfInBounds_toArray, List.set_cons_zero, List.set_cons_succ]
  refine wpAnyH_take (i := 8) (oi := ⟨some 14, _, _, _, _, _⟩) (v := ?vc8) rfl (by kernel_rfl) (by kernel_rfl) (by kernel_rfl) (fun _ _ _ h => h) (Or.inl ⟨by rfl, ?yc8⟩) (Fr.refl _ _) ?rc8
  case yc8 =>
    intro wq hSw
    (try dsimp only at hSw)
    first | (go_simp; done) | (go_simp; with_reducible rfl)
  try simp only [Act.put, List.setIfInBounds_toArray, List.set_cons_zero, List.set_cons_succ]
  refine wpAnyH_take (i := 9) (oi := ⟨some 15, _, _, _, _, _⟩) (v := ?vc9) rfl (by kernel_rfl) (by kernel_rfl) (by kernel_rfl) (fun _ _ _ h => h) (Or.inl ⟨by rfl, ?yc9⟩) (Fr.refl _ _) ?rc9
  case yc9 =>
    intro wq hSw
    (try dsimp only at hSw)
    first | (go_simp; done) | (go_simp; with_reducible rfl)
  try simp only [Act.put, List.setIfInBounds_toArray, List.set_cons_zero, List.set_cons_succ]
  refine wpAnyH_take (i := 10) (oi := ⟨some 16, _, _, _, _, _⟩) (v := ?vc10) rfl (by kernel_rfl) (by kernel_rfl) (by kernel_rfl) (fun _ _ _ h => h) (Or.inl ⟨by rfl, ?yc10⟩) (Fr.refl _ _) ?rc10
  case yc10 =>
    intro wq hSw
    (try dsimp only at hSw)
    first | (go_simp; done) | (go_simp; with_reducible rfl)
  try simp only [Act.put, List.setIfInBounds_toArray, List.set_cons_zero, List.set_cons_succ]
  refine wpAnyH_take (i := 11) (oi := ⟨some 17, _, _, _, _, _⟩) (v := ?vc11) rfl (by kernel_rfl) (by kernel_rfl) (by kernel_rfl) (fun _ _ _ h => h) (Or.inl ⟨by rfl, ?yc11⟩) (Fr.refl _ _) ?rc11
  case yc11 =>
    intro wq hSw
    (try dsimp only at hSw)
    have hq := hSw.cell_some H3.out (fun h => h)
    first | (go_simp; done) | (go_simp; with_reducible rfl)
  try simp only [Act.put, List.setIfInBounds_toArray, List.set_cons_zero, List.set_cons_succ]
  refine wpAnyH_take (i := 13) (oi := ⟨some 19, _, _, _, _, _⟩) (v := ?vc13) rfl (by kernel_rfl) (by kernel_rfl) (by kernel_rfl) (fun _ _ _ h => h) (Or.inl ⟨by rfl, ?yc13⟩) (Fr.refl _ _) ?rc13
  case yc13 =>
    intro wq hSw
    (try dsimp only at hSw)
    first | (go_simp; done) | (go_simp; with_reducible rfl)
  try simp only [Act.put, List.setIfInBounds_toArray, List.set_cons_zero, List.set_cons_succ]
  refine wpAnyH_take (i := 14) (oi := ⟨some 20, _, _, _, _, _⟩) (v := ?vc14) rfl (by kernel_rfl) (by kernel_rfl) (by kernel_rfl) (fun _ _ _ h => h) (Or.inl ⟨by rfl, ?yc14⟩) (Fr.refl _ _) ?rc14
  case yc14 =>
    intro wq hSw
    (try dsimp only at hSw)
    first | (go_simp; done) | (go_simp; with_reducible rfl)
  try simp only [Act.put, List.setIfInBounds_toArray, List.set_cons_zero, List.set_cons_succ]
  refine wpAnyH_take (i := 15) (oi := ⟨some 21, _, _, _, _, _⟩) (v := ?vc15) rfl (by kernel_rfl) (by kernel_rfl) (by kernel_rfl) (fun _ _ _ h => h) (Or.inl ⟨by rfl, ?yc15⟩) (Fr.refl _ _) ?rc15
  case yc15 =>
    intro wq hSw
    (try dsimp only at hSw)
    first | (go_simp; done) | (go_simp; with_reducible rfl)
  try simp only [Act.put, List.setIfInBounds_toArray, List.set_cons_zero, List.set_cons_succ]
  refine wpAnyH_take (i := 16) (oi := ⟨some 22, _, _, _, _, _⟩) (v := ?vc16) rfl (by kernel_rfl) (by kernel_rfl) (by kernel_rfl) (fun _ _ _ h => h) (Or.inl ⟨by rfl, ?yc16⟩) (Fr.refl _ _) ?rc16
  case yc16 =>
    intro wq hSw
    (try dsimp only at hSw)
    have hq := hSw.cell_some H4.out (fun h => h)
    first | (go_simp; done) | (go_simp; with_reducible rfl)
  try simp only [Act.put, List.setIfInBounds_toArray, List.set_cons_zero, List.set_cons_succ]
  refine wpAnyH_ready (rs := [12]) (by kernel_rfl) (by simp) ?_
  refine AllReadyH.cons (o := ⟨some 18, _, _, _, _, _⟩) rfl (fun K hK => ?_) AllReadyH.nil
  go_simp
  refine (copy_any M B p.n p.f w.drew (HP.out.busy.later (Below.drew (Below.refl _ _)))).mono ?_; rintro e w2 ⟨N, C, rfl, hp, hb, hN, hC⟩
  have hfr : Fr (fun _ => False) w.drew w2 := Fr.of_below hb
  have B2b := Lib.hid (show Below w.heap.size w w2 from (Below.drew (Below.refl _ _)).trans hb)
  have HB0 := Lib.hid hp
  have HL := Lib.hid (And.intro hp.ltM hp.ltB)
  have HG1 := Lib.hid (show w.heap.size ≤ N ∧ w.heap.size ≤ C from ⟨hN, hC⟩)
  clear hp hb hN hC
  go_wp2_with fail
  refine hK.out _ _ hfr (fun hHeld => ?_)
  clear hK K hHeld
  try simp only [Act.put, List.setIfInBounds_toArray, List.set_cons_zero, List.set_cons_succ]
  refine wpAnyH_re (S' := fun w' => Fr (fun _ => False) w2 w') (fun w' h => hfr.trans h) ?_
  clear hfr
  refine wpAnyH_ready (rs := [17]) (by kernel_rfl) (by simp) ?_
  refine AllReadyH.cons (o := ⟨some 23, _, _, _, _, _⟩) rfl (fun K hK => ?_) AllReadyH.nil
  go_simp
  refine (copy_any M2 B2 p.n p.g w2 (HP.out.limbo.later B2b.out)).mono ?_; rintro e w3 ⟨N2, C2, rfl, hp, hb, hN, hC⟩
  have hfr : Fr (fun _ => False) w2 w3 := Fr.of_below hb
  have B3b := Lib.hid (B2b.out.trans (hb.mono B2b.out.size))
  have HB3 := Lib.hid (HB0.out.later hb)
  have HB4 := Lib.hid hp
  have HL2 := Lib.hid (show N2 < w3.heap.size ∧ C2 < w3.heap.size ∧ w2.heap.size ≤ w3.heap.size from ⟨hp.ltM, hp.ltB, hb.size⟩)
  have HG2 := Lib.hid (show w2.heap.size ≤ N2 ∧ w2.heap.size ≤ C2 ∧ w.heap.size ≤ w2.heap.size from ⟨hN, hC, B2b.out.size⟩)
  clear hp hb hN hC
  go_wp2_with fail
  refine hK.out _ _ hfr (fun hHeld => ?_)
  clear hK K hHeld
  try simp only [Act.put, List.setIfInBounds_toArray, List.set_cons_zero, List.set_cons_succ]
  refine wpAnyH_re (S' := fun w' => Fr (fun _ => False) w3 w') (fun w' h => hfr.trans h) ?_
  clear hfr
  refine wpAnyH_take (i := 18) (oi := ⟨some 24, _, _, _, _, _⟩) (v := ?vc18) rfl (by kernel_rfl) (by kernel_rfl) (by kernel_rfl) (fun _ _ _ h => h) (Or.inl ⟨by rfl, ?yc18⟩) (Fr.refl _ _) ?rc18
  case yc18 =>
    intro wq hSw
    (try dsimp only at hSw)
    first | (go_simp; done) | (go_simp; with_reducible rfl)
  try simp only [Act.put, List.setIfInBounds_toArray, List.set_cons_zero, List.set_cons_succ]
  refine wpAnyH_ready (rs := [19]) (by kernel_rfl) (by simp) ?_
  refine AllReadyH.cons (o := ⟨some 25, _, _, _, _, _⟩) rfl (fun K hK => ?_) AllReadyH.nil
  go_simp
  have hb : Below w3.heap.size w3 (w3.alloc (.cells #[.int .u64 (p.e : Int), .int .i64 (p.t : Int), .int .i64 (p.a : Int), .pointer (some ⟨N, 0, none⟩), .pointer (some ⟨N2, 0, none⟩)] 50)) := (Below.refl _ _).alloc (Nat.le_refl _) _
  have hx := heap_alloc_new w3 (.cells #[.int .u64 (p.e : Int), .int .i64 (p.t : Int), .int .i64 (p.a : Int), .pointer (some ⟨N, 0, none⟩), .pointer (some ⟨N2, 0, none⟩)] 50)
  obtain ⟨w4, hw⟩ : ∃ u0, u0 = w3.alloc (.cells #[.int .u64 (p.e : Int), .int .i64 (p.t : Int), .int .i64 (p.a : Int), .pointer (some ⟨N, 0, none⟩), .pointer (some ⟨N2, 0, none⟩)] 50) := ⟨_, rfl⟩
  rw [← hw] at hb hx ⊢
  clear hw
  have X4 := Lib.hid hx
  have HB1 := Lib.hid (HB3.out.later hb)
  have HB2 := Lib.hid (HB4.out.later hb)
  have BT := Lib.hid (B3b.out.trans (hb.mono B3b.out.size))
  have hfr : Fr (fun _ => False) w3 w4 := Fr.of_below hb
  clear hb hx
  refine hK.out _ _ hfr (fun hHeld => ?_)
  clear hK K hHeld
  try simp only [Act.put, List.setIfInBounds_toArray, List.set_cons_zero, List.set_cons_succ]
  refine wpAnyH_re (S' := fun w' => Fr (fun _ => False) w4 w') (fun w' h => hfr.trans h) ?_
  clear hfr
  refine wpAnyH_take (i := 20) (oi := ⟨some 2, _, _, _, _, _⟩) (v := ?vc20) rfl (by kernel_rfl) (by kernel_rfl) (by kernel_rfl) (fun _ _ _ h => h) (Or.inl ⟨by rfl, ?yc20⟩) (Fr.refl _ _) ?rc20
  case yc20 =>
    intro wq hSw
    (try dsimp only at hSw)
    first | (go_simp; done) | (go_simp; with_reducible rfl)
  try simp only [Act.put, List.setIfInBounds_toArray, List.set_cons_zero, List.set_cons_succ]
  refine wpAnyH_done (by kernel_rfl) ?_ _
  go_wp2_with fail
  go_ret
  have i1 := HL.out
  have i2 := HL2.out
  have k1 := HG1.out
  have k2 := HG2.out
  refine ⟨own14 w3.heap.size N C N2 C2, w3.heap.size, rfl, ⟨N, C, N2, C2, rfl, X4.out, HB1.out, HB2.out, HP.out.ok, ?_, ?_, ?_, ?_, ?_, ?_, ?_⟩, BT.out, ?_⟩
  all_goals first | omega | (rintro b (rfl | rfl | rfl | rfl | rfl) <;> omega)
end Go.Proofs.YtgkdpljlgdlekaaDoor
