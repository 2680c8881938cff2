/-
  Contracts of package stripe's small functions: Home, Room, home, fault. Condition: bounds; the array and the coder are ones that New made. (Written by gen_edc.py.)
-/
import Derived.Test.YtajdholblmdnjaaGreatDoorEcg
import Derived.Deep.QuietTactic
import Derived.Deep.RegionHeld3
set_option linter.unusedVariables false
set_option maxRecDepth 20000
set_option maxHeartbeats 1600000
namespace Go.Proofs.YtajdholblmdnjaaGreatDoor
open Go.RowKit Go.Proofs
theorem shome_any (w : World) (n p i : Nat) (h1 : 1 ≤ n) (h2 : n ≤ 255) (hp : p < 9223372036854775808) (hi : i < 9223372036854775808) :
  Calls Tryz.prog 23 #[.int .i64 (n : Int), .int .i64 (p : Int), .int .i64 (i : Int)] w fun e w' => e = .returned (.int .i64 (homeN n p i : Nat)) ∧ Below w.heap.size w w' := by
 have a1 : ¬ (n : Int) < 1 := by omega
 have a2 : ¬ (p : Int) < 0 := by omega
 have a3 : ¬ (i : Int) < 0 := by omega
 have z0 : ¬ (n : Int) = 0 := by omega
 go_enter Tryz.func23, Tryz.ntmps23
 go_wp2_with fail
 go_quiet (fail)
 go_wp2_with fail
 go_ret
 refine ⟨?_, dn13 (Below.refl _ _) _⟩
 have hx : p % n < n := Nat.mod_lt _ (by omega)
 have hy : i % n < n := Nat.mod_lt _ (by omega)
 have hw : wrap64 ((p : Int) % (n : Int) + (i : Int) % (n : Int)) = ((p % n + i % n : Nat) : Int) := by
  have e1 : (p : Int) % (n : Int) = ((p % n : Nat) : Int) := by simp
  have e2 : (i : Int) % (n : Int) = ((i % n : Nat) : Int) := by simp
  rw [e1, e2]
  unfold wrap64
  omega
 rw [hw, Int.tmod_eq_emod_of_nonneg (by omega)]
 unfold homeN
 simp
theorem sroom_any {w : World} {C k m F T : Nat} (h : Cod w C k m F T) : Calls Tryz.prog 24 #[.pointer (some ⟨C, 0, none⟩)] w fun e w' => e = .returned (.int .i64 ((44 * k : Nat) : Int)) ∧ w' = w := by
 have hk := h.n255
 have hh := ck_any C k m F T w h
 have H := Lib.hid h
 clear h
 have hw : wrap64 ((k : Int) * 44) = 44 * (k : Int) := by unfold wrap64; omega
 go_enter Tryz.func24, Tryz.ntmps24
 go_wp2_with fail
 refine hh.mono ?_; clear hh; rintro e w1 ⟨rfl, hw1⟩
 obtain rfl : w = w1 := hw1.symm
 go_wp2_with fail
 go_ret
 refine ⟨?_, rfl⟩
 rw [show ((44 * k : Nat) : Int) = (k : Int) * 44 from by omega]
 rfl
def StB (w : World) (b A C : Nat) (kd : UInt8) (p g : Nat) : Prop := w.heap[b]? = some (.cells #[.pointer (some ⟨A, 0, none⟩), .pointer (some ⟨C, 0, none⟩), .int .u8 (kd.toNat : Int), .int .i64 (p : Int), .int .u64 (g : Int)] 63 (0, 0))
section
variable {w w' : World} {b A C p g : Nat} {kd : UInt8}
theorem StB.c0 (h : StB w b A C kd p g) : w.cell? ⟨b, 0, none⟩ = some (.pointer (some ⟨A, 0, none⟩)) := by rw [cell_of_row _ _ _ _ _ _ h]; rfl
theorem StB.c1 (h : StB w b A C kd p g) : w.cell? ⟨b, 1, none⟩ = some (.pointer (some ⟨C, 0, none⟩)) := by rw [cell_of_row _ _ _ _ _ _ h]; rfl
theorem StB.c2 (h : StB w b A C kd p g) : w.cell? ⟨b, 2, none⟩ = some (.int .u8 (kd.toNat : Int)) := by rw [cell_of_row _ _ _ _ _ _ h]; rfl
theorem StB.c3 (h : StB w b A C kd p g) : w.cell? ⟨b, 3, none⟩ = some (.int .i64 (p : Int)) := by rw [cell_of_row _ _ _ _ _ _ h]; rfl
theorem StB.c4 (h : StB w b A C kd p g) : w.cell? ⟨b, 4, none⟩ = some (.int .u64 (g : Int)) := by rw [cell_of_row _ _ _ _ _ _ h]; rfl
theorem StB.lt (h : StB w b A C kd p g) : b < w.heap.size := block_lt h
theorem StB.later (h : StB w b A C kd p g) (hb : Below w.heap.size w w') : StB w' b A C kd p g := (hb.block _ (block_lt h)).trans h
theorem StB.fr {S : Nat → Prop} (h : StB w b A C kd p g) (hf : Fr S w w') (hb : ¬ S b) : StB w' b A C kd p g := hf.row_some h hb
end
theorem size_st13 (A C : Nat) (kd : UInt8) (p g : Nat) : (Tryz.prog.info? 63).map (·.size) = some (#[Value.pointer (some ⟨A, 0, none⟩), .pointer (some ⟨C, 0, none⟩), .int .u8 (kd.toNat : Int), .int .i64 (p : Int), .int .u64 (g : Int)] : Array Value).size := by
 show _ = some 5
 kernel_rfl
theorem step_st13 {ρ : Operand → Value} {o : Oper} {x : Operand} {w : World} {B A C p g : Nat} {kd : UInt8} (ho : o.op = .load 63 x) (hx : ρ x = .pointer (some ⟨B, 0, none⟩)) (h : StB w B A C kd p g) : (execOp ρ o).run Tryz.prog w = .ok (.value (.agg #[.pointer (some ⟨A, 0, none⟩), .pointer (some ⟨C, 0, none⟩), .int .u8 (kd.toNat : Int), .int .i64 (p : Int), .int .u64 (g : Int)])) w := by
 unfold execOp
 simp only [ho, hx, Instr.loadAt, Instr.sureAddr, Sem.run_bind, Sem.run_pure, Result.andThen_ok, run_loadVar_row w B _ 63 #[.pointer (some ⟨A, 0, none⟩), .pointer (some ⟨C, 0, none⟩), .int .u8 (kd.toNat : Int), .int .i64 (p : Int), .int .u64 (g : Int)] (0, 0) _ h Tryz.underlying63 rfl (size_st13 A C kd p g)]
theorem cn13 {w : World} {C k m F T n : Nat} (h : Cod w C k m F T) (hn : n = k + m) : Calls Tryz.prog 41 #[.pointer (some ⟨C, 0, none⟩)] w fun e w' => e = .returned (.int .i64 (n : Int)) ∧ Below w.heap.size w w' := by
 subst hn
 exact cn_any C k m F T w h
section
variable {Rep : World → (Nat → Prop) → Nat → Dv → Prop} {w : World} {S : Nat → Prop} {A C k m F T N n p g i : Nat} {kd : UInt8} {xs : List Dv}
theorem sthome_any (h : Cod w C k m F T) (hn : n = k + m) (hp : p < 9223372036854775808) (hi : i < 9223372036854775808) :
  Calls Tryz.prog 63 #[.agg #[.pointer (some ⟨A, 0, none⟩), .pointer (some ⟨C, 0, none⟩), .int .u8 (kd.toNat : Int), .int .i64 (p : Int), .int .u64 (g : Int)], .int .i64 (i : Int)] w fun e w' => e = .returned (.int .i64 (homeN n p i : Nat)) ∧ Below w.heap.size w w' := by
 have hn1 := h.k1
 have hn2 := h.n255
 have H := Lib.hid h
 have Hn := Lib.hid hn
 obtain ⟨r, hr⟩ : ∃ r, r = homeN n p i := ⟨_, rfl⟩
 rw [← hr]
 have Hr := Lib.hid hr
 have hq1 : 1 ≤ n := by omega
 have hq2 : n ≤ 255 := by omega
 clear h hn hr
 go_enter Tryz.func63, Tryz.ntmps63
 go_wp2_with fail
 have hnew : StB (w.alloc (.cells #[.pointer (some ⟨A, 0, none⟩), .pointer (some ⟨C, 0, none⟩), .int .u8 (kd.toNat : Int), .int .i64 (p : Int), .int .u64 (g : Int)] 63)) w.heap.size A C kd p g := heap_alloc_new w _
 have hb0 : Below w.heap.size w (w.alloc (.cells #[.pointer (some ⟨A, 0, none⟩), .pointer (some ⟨C, 0, none⟩), .int .u8 (kd.toNat : Int), .int .i64 (p : Int), .int .u64 (g : Int)] 63)) := (Below.refl _ _).alloc (Nat.le_refl _) _
 obtain ⟨wl, hwl⟩ : ∃ x, x = w.alloc (.cells #[.pointer (some ⟨A, 0, none⟩), .pointer (some ⟨C, 0, none⟩), .int .u8 (kd.toNat : Int), .int .i64 (p : Int), .int .u64 (g : Int)] 63) := ⟨_, rfl⟩
 rw [← hwl] at hnew hb0 ⊢
 have Hs := Lib.hid hnew
 have B0 := Lib.hid hb0
 clear hwl hnew hb0
 refine wp_region_held_drew (S := fun w' => Fr (fun _ => False) wl.drew w') (by kernel_rfl) (Fr.refl _ _) (fun hHeld => ?_)
 clear hHeld
 refine tL (i := 0) (d := some 5) (v := ?vh0) rfl ?yh0 (Fr.refl _ _) ?rh0
 case yh0 =>
  intro wq hSw
  (try dsimp only at hSw)
  go_simp <;> with_reducible rfl
 try simp only [Act.put,sA,sB,sC]
 refine tL (i := 1) (d := some 6) (v := ?vh1) rfl ?yh1 (Fr.refl _ _) ?rh1
 case yh1 =>
  intro wq hSw
  (try dsimp only at hSw)
  have hq := hSw.cell_some Hs.out.c1 (fun h => h)
  go_simp <;> with_reducible rfl
 try simp only [Act.put,sA,sB,sC]
 refine tL (i := 3) (d := some 8) (v := ?vh3) rfl ?yh3 (Fr.refl _ _) ?rh3
 case yh3 =>
  intro wq hSw
  (try dsimp only at hSw)
  go_simp <;> with_reducible rfl
 try simp only [Act.put,sA,sB,sC]
 refine tL (i := 4) (d := some 9) (v := ?vh4) rfl ?yh4 (Fr.refl _ _) ?rh4
 case yh4 =>
  intro wq hSw
  (try dsimp only at hSw)
  go_simp <;> with_reducible rfl
 try simp only [Act.put,sA,sB,sC]
 refine tL (i := 5) (d := some 10) (v := ?vh5) rfl ?yh5 (Fr.refl _ _) ?rh5
 case yh5 =>
  intro wq hSw
  (try dsimp only at hSw)
  have hq := hSw.cell_some Hs.out.c3 (fun h => h)
  go_simp <;> with_reducible rfl
 try simp only [Act.put,sA,sB,sC]
 refine tL (i := 6) (d := some 11) (v := ?vh6) rfl ?yh6 (Fr.refl _ _) ?rh6
 case yh6 =>
  intro wq hSw
  (try dsimp only at hSw)
  go_simp <;> with_reducible rfl
 try simp only [Act.put,sA,sB,sC]
 refine rW (i := 2) (d := some 7) rfl fun K hK => ?_
 go_simp
 refine (cn13 (H.out.later (B0.out.trans (Below.drew (Below.refl _ _)))) Hn.out).mono ?_; rintro e w1 ⟨rfl, hb⟩
 have hfr : Fr (fun _ => False) wl.drew w1 := Fr.of_below hb
 have B1 := Lib.hid (show Below w.heap.size w w1 from (B0.out.trans ((Below.drew (Below.refl wl.heap.size wl)).mono B0.out.size)).trans (hb.mono B0.out.size))
 clear hb
 go_wp2_with fail
 refine hK.out _ _ hfr (fun hHeld => ?_)
 clear hK K hHeld
 try simp only [Act.put,sA,sB,sC]
 refine wpAnyH_re (S' := fun w' => Fr (fun _ => False) w1 w') (fun w' h => hfr.trans h) ?_
 clear hfr
 refine rW (i := 7) (d := some 12) rfl fun K hK => ?_
 go_simp
 refine (shome_any w1 n p i hq1 hq2 hp hi).mono ?_; rintro e w2 ⟨rfl, hb⟩
 rw [← Hr.out]
 have hfr : Fr (fun _ => False) w1 w2 := Fr.of_below hb
 have B2 := Lib.hid (B1.out.trans (hb.mono B1.out.size))
 clear hb
 go_wp2_with fail
 refine hK.out _ _ hfr (fun hHeld => ?_)
 clear hK K hHeld
 try simp only [Act.put,sA,sB,sC]
 refine wpAnyH_re (S' := fun w' => Fr (fun _ => False) w2 w') (fun w' h => hfr.trans h) ?_
 clear hfr
 refine tL (i := 8) (d := some 4) (v := ?vh8) rfl ?yh8 (Fr.refl _ _) ?rh8
 case yh8 =>
  intro wq hSw
  (try dsimp only at hSw)
  go_simp <;> with_reducible rfl
 try simp only [Act.put,sA,sB,sC]
 refine tD ?_
 go_wp2_with fail
 go_ret
 exact ⟨rfl, B2.out⟩
theorem fault_any (DK : DrvK Rep) (h : Ac13 Rep w S A C k m F T N xs) (hk1 : 1 ≤ kd.toNat) (hk4 : kd.toNat ≤ 4) (hp : p < N) :
  Calls Tryz.prog 28 #[.agg #[.pointer (some ⟨A, 0, none⟩), .pointer (some ⟨C, 0, none⟩), .int .u8 (kd.toNat : Int), .int .i64 (p : Int), .int .u64 (g : Int)]] w fun e w' => e = .returned (.int .i64 0) ∧ Below w.heap.size w w' := by
 obtain ⟨n, hn⟩ : ∃ n, n = k + m := ⟨_, rfl⟩
 have hq1 : 1 ≤ n := by have := h.c.k1; omega
 have hq2 : n ≤ 255 := by have := h.c.n255; omega
 have hlen : xs.length = n := by rw [h.len, hn]
 have harN : ∀ w, AP Rep w S A xs → Calls Tryz.prog 52 #[.pointer (some ⟨A, 0, none⟩)] w fun e w' => e = .returned (.int .i64 (n : Int)) ∧ w' = w := fun w q => by
  have := arN_any q
  rwa [hlen] at this
 obtain ⟨x0, hx0⟩ : ∃ x, xs[0]? = some x := ⟨_, List.getElem?_eq_getElem (by omega)⟩
 have hsec : ∀ w, AP Rep w S A xs → Calls Tryz.prog 58 #[.pointer (some ⟨A, 0, none⟩)] w fun e w' => e = .returned (.int .i64 (N : Int)) ∧ Below w.heap.size w w' := fun w q => by
  have := arsectors_any DK q hx0
  rwa [(h.n 0 x0 hx0).2] at this
 have PA := Lib.hid h.a
 have PC := Lib.hid h.c
 have Hn := Lib.hid hn
 have k1 : (1 : Int) ≤ (kd.toNat : Int) := by omega
 have k4 : (kd.toNat : Int) ≤ 4 := by omega
 have hpi : (p : Int) < (N : Int) := by omega
 have hp0 : (0 : Int) ≤ (p : Int) := by omega
 have hn0 : ¬ (n : Int) = 0 := by omega
 obtain ⟨y, hy⟩ : ∃ y, y = kd.toNat := ⟨_, rfl⟩
 clear h hn hlen hx0 hk1 hk4
 go_enter Tryz.func28, Tryz.ntmps28
 have hnew : StB (w.alloc (.cells #[.pointer (some ⟨A, 0, none⟩), .pointer (some ⟨C, 0, none⟩), .int .u8 (kd.toNat : Int), .int .i64 (p : Int), .int .u64 (g : Int)] 63)) w.heap.size A C kd p g := heap_alloc_new w _
 have hb0 : Below w.heap.size w (w.alloc (.cells #[.pointer (some ⟨A, 0, none⟩), .pointer (some ⟨C, 0, none⟩), .int .u8 (kd.toNat : Int), .int .i64 (p : Int), .int .u64 (g : Int)] 63)) := (Below.refl _ _).alloc (Nat.le_refl _) _
 obtain ⟨B, hB⟩ : ∃ B, B = w.heap.size := ⟨_, rfl⟩
 go_wp2_with fail
 obtain ⟨wl, hwl⟩ : ∃ x, x = w.alloc (.cells #[.pointer (some ⟨A, 0, none⟩), .pointer (some ⟨C, 0, none⟩), .int .u8 (kd.toNat : Int), .int .i64 (p : Int), .int .u64 (g : Int)] 63) := ⟨_, rfl⟩
 rw [← hwl] at hnew hb0 ⊢
 rw [← hB] at hnew ⊢
 have PA0 := Lib.hid (PA.out.later DK.lay hb0)
 have PC0 := Lib.hid (PC.out.later hb0)
 have Hs := Lib.hid hnew
 have B0 := Lib.hid hb0
 have c0 := hnew.c0
 have c1 := hnew.c1
 have c2 := hnew.c2
 have c3 := hnew.c3
 clear hwl hnew hb0 hB
 refine (harN wl PA0.out).mono ?_; rintro e w1 ⟨rfl, hw1⟩
 obtain rfl : wl = w1 := hw1.symm
 clear hw1
 go_wp2_with fail
 refine (cf_any C k m F T wl PC0.out).mono ?_; rintro e w1 ⟨rfl, hw1⟩
 obtain rfl : wl = w1 := hw1.symm
 clear hw1
 go_wp2_with fail
 refine wp_region_held_drew (S := fun w' => Fr (fun _ => False) wl.drew w') (by kernel_rfl) (Fr.refl _ _) (fun hHeld => ?_)
 clear hHeld
 refine tL (i := 0) (d := some 25) (v := ?vf0) rfl ?yf0 (Fr.refl _ _) ?rf0
 case yf0 =>
  intro wq hSw
  (try dsimp only at hSw)
  go_simp <;> with_reducible rfl
 try simp only [Act.put,sA,sB,sC]
 refine tL (i := 1) (d := some 26) (v := ?vf1) rfl ?yf1 (Fr.refl _ _) ?rf1
 case yf1 =>
  intro wq hSw
  (try dsimp only at hSw)
  go_simp <;> with_reducible rfl
 try simp only [Act.put,sA,sB,sC]
 refine tL (i := 2) (d := some 27) (v := ?vf2) rfl ?yf2 (Fr.refl _ _) ?rf2
 case yf2 =>
  intro wq hSw
  (try dsimp only at hSw)
  have hq := hSw.cell_some Hs.out.c3 (fun h => h)
  go_simp <;> with_reducible rfl
 try simp only [Act.put,sA,sB,sC]
 refine tL (i := 3) (d := some 28) (v := ?vf3) rfl ?yf3 (Fr.refl _ _) ?rf3
 case yf3 =>
  intro wq hSw
  (try dsimp only at hSw)
  go_simp <;> with_reducible rfl
 try simp only [Act.put,sA,sB,sC]
 refine tL (i := 4) (d := some 29) (v := ?vf4) rfl ?yf4 (Fr.refl _ _) ?rf4
 case yf4 =>
  intro wq hSw
  (try dsimp only at hSw)
  go_simp <;> with_reducible rfl
 try simp only [Act.put,sA,sB,sC]
 refine tL (i := 5) (d := some 30) (v := ?vf5) rfl ?yf5 (Fr.refl _ _) ?rf5
 case yf5 =>
  intro wq hSw
  (try dsimp only at hSw)
  go_simp <;> with_reducible rfl
 try simp only [Act.put,sA,sB,sC]
 refine tL (i := 6) (d := some 31) (v := ?vf6) rfl ?yf6 (Fr.refl _ _) ?rf6
 case yf6 =>
  intro wq hSw
  (try dsimp only at hSw)
  go_simp <;> with_reducible rfl
 try simp only [Act.put,sA,sB,sC]
 refine tL (i := 7) (d := some 32) (v := ?vf7) rfl ?yf7 (Fr.refl _ _) ?rf7
 case yf7 =>
  intro wq hSw
  (try dsimp only at hSw)
  have hq := hSw.cell_some Hs.out.c3 (fun h => h)
  go_simp <;> with_reducible rfl
 try simp only [Act.put,sA,sB,sC]
 refine tL (i := 8) (d := some 33) (v := ?vf8) rfl ?yf8 (Fr.refl _ _) ?rf8
 case yf8 =>
  intro wq hSw
  (try dsimp only at hSw)
  go_simp <;> with_reducible rfl
 try simp only [Act.put,sA,sB,sC]
 refine tL (i := 9) (d := some 34) (v := ?vf9) rfl ?yf9 (Fr.refl _ _) ?rf9
 case yf9 =>
  intro wq hSw
  (try dsimp only at hSw)
  have hq := hSw.cell_some Hs.out.c0 (fun h => h)
  go_simp <;> with_reducible rfl
 try simp only [Act.put,sA,sB,sC]
 refine rW (i := 10) (d := some 35) rfl fun K hK => ?_
 go_simp
 refine (hsec wl.drew (PA0.out.later DK.lay (Below.drew (Below.refl _ _)))).mono ?_; rintro e w2 ⟨rfl, hb⟩
 have hbb : Below wl.heap.size wl w2 := (Below.drew (Below.refl wl.heap.size wl)).trans hb
 have hfr : Fr (fun _ => False) wl.drew w2 := Fr.of_below hb
 have B2 := Lib.hid (B0.out.trans (hbb.mono B0.out.size))
 have Hs2 := Lib.hid (Hs.out.later hbb)
 have PA2 := Lib.hid (PA0.out.later DK.lay hbb)
 have PC2 := Lib.hid (PC0.out.later hbb)
 clear hb hbb
 go_wp2_with fail
 refine hK.out _ _ hfr (fun hHeld => ?_)
 clear hK K hHeld
 try simp only [Act.put,sA,sB,sC]
 refine wpAnyH_re (S' := fun w' => Fr (fun _ => False) w2 w') (fun w' h => hfr.trans h) ?_
 clear hfr
 refine tL (i := 11) (d := some 36) (v := ?vf11) rfl ?yf11 (Fr.refl _ _) ?rf11
 case yf11 =>
  intro wq hSw
  (try dsimp only at hSw)
  go_simp <;> with_reducible rfl
 try simp only [Act.put,sA,sB,sC]
 refine tL (i := 12) (d := some 37) (v := ?vf12) rfl ?yf12 (Fr.refl _ _) ?rf12
 case yf12 =>
  intro wq hSw
  (try dsimp only at hSw)
  go_simp <;> with_reducible rfl
 try simp only [Act.put,sA,sB,sC]
 refine tL (i := 13) (d := some 4) (v := ?vf13) rfl ?yf13 (Fr.refl _ _) ?rf13
 case yf13 =>
  intro wq hSw
  (try dsimp only at hSw)
  go_simp <;> with_reducible rfl
 try simp only [Act.put,sA,sB,sC]
 refine tD ?_
 go_wp2_with fail
 refine wp_region_held_drew (S := fun w' => Fr (fun _ => False) w2.drew w') (by kernel_rfl) (Fr.refl _ _) (fun hHeld => ?_)
 clear hHeld
 refine tL (i := 0) (d := some 38) (v := ?vg0) rfl ?yg0 (Fr.refl _ _) ?rg0
 case yg0 =>
  intro wq hSw
  (try dsimp only at hSw)
  go_simp <;> with_reducible rfl
 try simp only [Act.put,sA,sB,sC]
 refine tL (i := 1) (d := some 39) (v := ?vg1) rfl ?yg1 (Fr.refl _ _) ?rg1
 case yg1 =>
  intro wq hSw
  (try dsimp only at hSw)
  have hq := hSw.cell_some Hs2.out.c0 (fun h => h)
  go_simp <;> with_reducible rfl
 try simp only [Act.put,sA,sB,sC]
 refine tL (i := 3) (d := some 41) (v := ?vg3) rfl ?yg3 (Fr.refl _ _) ?rg3
 case yg3 =>
  intro wq hSw
  (try dsimp only at hSw)
  go_simp <;> with_reducible rfl
 try simp only [Act.put,sA,sB,sC]
 refine tL (i := 4) (d := some 42) (v := ?vg4) rfl ?yg4 (Fr.refl _ _) ?rg4
 case yg4 =>
  intro wq hSw
  (try dsimp only at hSw)
  have hq := hSw.cell_some Hs2.out.c1 (fun h => h)
  go_simp <;> with_reducible rfl
 try simp only [Act.put,sA,sB,sC]
 refine rW (i := 2) (d := some 40) rfl fun K hK => ?_
 go_simp
 refine (harN w2.drew (PA2.out.later DK.lay (Below.drew (Below.refl _ _)))).mono ?_; rintro e w9 ⟨rfl, hw9⟩
 subst hw9
 have hfr : Fr (fun _ => False) w2.drew w2.drew := Fr.refl _ _
 go_wp2_with fail
 refine hK.out _ _ hfr (fun hHeld => ?_)
 clear hK K hHeld
 try simp only [Act.put,sA,sB,sC]
 refine wpAnyH_re (S' := fun w' => Fr (fun _ => False) w2.drew w') (fun w' h => hfr.trans h) ?_
 clear hfr
 refine rW (i := 5) (d := some 43) rfl fun K hK => ?_
 go_simp
 refine (cn13 (PC2.out.later (Below.drew (Below.refl _ _))) Hn.out).mono ?_; rintro e w3 ⟨rfl, hb⟩
 have hfr : Fr (fun _ => False) w2.drew w3 := Fr.of_below hb
 have B3 := Lib.hid (show Below w.heap.size w w3 from B2.out.trans (((Below.drew (Below.refl w2.heap.size w2)).trans hb).mono B2.out.size))
 clear hb
 go_wp2_with fail
 refine hK.out _ _ hfr (fun hHeld => ?_)
 clear hK K hHeld
 try simp only [Act.put,sA,sB,sC]
 refine wpAnyH_re (S' := fun w' => Fr (fun _ => False) w3 w') (fun w' h => hfr.trans h) ?_
 clear hfr
 refine tL (i := 6) (d := some 44) (v := ?vg6) rfl ?yg6 (Fr.refl _ _) ?rg6
 case yg6 =>
  intro wq hSw
  (try dsimp only at hSw)
  go_simp <;> with_reducible rfl
 try simp only [Act.put,sA,sB,sC]
 refine tL (i := 7) (d := some 45) (v := ?vg7) rfl ?yg7 (Fr.refl _ _) ?rg7
 case yg7 =>
  intro wq hSw
  (try dsimp only at hSw)
  go_simp <;> with_reducible rfl
 try simp only [Act.put,sA,sB,sC]
 refine tL (i := 8) (d := some 46) (v := ?vg8) rfl ?yg8 (Fr.refl _ _) ?rg8
 case yg8 =>
  intro wq hSw
  (try dsimp only at hSw)
  go_simp <;> with_reducible rfl
 try simp only [Act.put,sA,sB,sC]
 refine tL (i := 9) (d := some 47) (v := ?vg9) rfl ?yg9 (Fr.refl _ _) ?rg9
 case yg9 =>
  intro wq hSw
  (try dsimp only at hSw)
  go_simp <;> with_reducible rfl
 try simp only [Act.put,sA,sB,sC]
 refine tL (i := 10) (d := some 48) (v := ?vg10) rfl ?yg10 (Fr.refl _ _) ?rg10
 case yg10 =>
  intro wq hSw
  (try dsimp only at hSw)
  go_simp <;> with_reducible rfl
 try simp only [Act.put,sA,sB,sC]
 refine tL (i := 11) (d := some 49) (v := ?vg11) rfl ?yg11 (Fr.refl _ _) ?rg11
 case yg11 =>
  intro wq hSw
  (try dsimp only at hSw)
  go_simp <;> with_reducible rfl
 try simp only [Act.put,sA,sB,sC]
 refine tL (i := 12) (d := some 50) (v := ?vg12) rfl ?yg12 (Fr.refl _ _) ?rg12
 case yg12 =>
  intro wq hSw
  (try dsimp only at hSw)
  go_simp <;> with_reducible rfl
 try simp only [Act.put,sA,sB,sC]
 refine tL (i := 13) (d := some 51) (v := ?vg13) rfl ?yg13 (Fr.refl _ _) ?rg13
 case yg13 =>
  intro wq hSw
  (try dsimp only at hSw)
  go_simp <;> with_reducible rfl
 try simp only [Act.put,sA,sB,sC]
 refine tL (i := 14) (d := some 52) (v := ?vg14) rfl ?yg14 (Fr.refl _ _) ?rg14
 case yg14 =>
  intro wq hSw
  (try dsimp only at hSw)
  go_simp <;> with_reducible rfl
 try simp only [Act.put,sA,sB,sC]
 refine tD ?_
 go_wp2_with fail
 go_ret
 exact ⟨rfl, B3.out⟩
end
end Go.Proofs.YtajdholblmdnjaaGreatDoor
