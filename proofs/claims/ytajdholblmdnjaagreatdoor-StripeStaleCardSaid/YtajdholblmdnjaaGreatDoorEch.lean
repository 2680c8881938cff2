/-
  Layer 13's example ('holds'), over StrK: it returns true.
-/
import Derived.Test.YtajdholblmdnjaaGreatDoorEcg
import Derived.Test.YtajdholblmdnjaaGreatDoorKb
import Derived.Test.YtajdholblmdnjaaGreatDoorLc
import Derived.Lib.SlBytesConst
set_option linter.unusedVariables false
set_option maxRecDepth 100000
set_option maxHeartbeats 3200000
namespace Go.Proofs.YtajdholblmdnjaaGreatDoor
open Go.RowKit Go.Proofs
def Rf13 (w : World) (B : Nat) (k p g : Int) : Prop := w.heap[B]? = some (.cells #[.int .u8 k, .int .i64 p, .int .u64 g] 34 (0, 0))
theorem size_ref13 (k p g : Int) : (Tryz.prog.info? 34).map (·.size) = some (#[Value.int .u8 k, .int .i64 p, .int .u64 g] : Array Value).size := by
 show _ = some 3
 kernel_rfl
theorem step_ref13 {ρ : Operand → Value} {o : Oper} {x : Operand} {w : World} {B : Nat} {k p g : Int} (ho : o.op = .load 34 x) (hx : ρ x = .pointer (some ⟨B, 0, none⟩)) (h : Rf13 w B k p g) : (execOp ρ o).run Tryz.prog w = .ok (.value (.agg #[.int .u8 k, .int .i64 p, .int .u64 g])) w := by
 unfold execOp
 simp only [ho, hx, Instr.loadAt, Instr.sureAddr, Sem.run_bind, Sem.run_pure, Result.andThen_ok, run_loadVar_row w B _ 34 #[.int .u8 k, .int .i64 p, .int .u64 g] (0, 0) _ h Tryz.underlying34 rfl (size_ref13 k p g)]
def Geo13 (w : World) (B : Nat) (k m s : Int) : Prop := w.heap[B]? = some (.cells #[.int .i64 k, .int .i64 m, .int .i64 s] 23 (0, 0))
theorem size_geo13 (k m s : Int) : (Tryz.prog.info? 23).map (·.size) = some (#[Value.int .i64 k, .int .i64 m, .int .i64 s] : Array Value).size := by
 show _ = some 3
 kernel_rfl
theorem step_geo13 {ρ : Operand → Value} {o : Oper} {x : Operand} {w : World} {B : Nat} {k m s : Int} (ho : o.op = .load 23 x) (hx : ρ x = .pointer (some ⟨B, 0, none⟩)) (h : Geo13 w B k m s) : (execOp ρ o).run Tryz.prog w = .ok (.value (.agg #[.int .i64 k, .int .i64 m, .int .i64 s])) w := by
 unfold execOp
 simp only [ho, hx, Instr.loadAt, Instr.sureAddr, Sem.run_bind, Sem.run_pure, Result.andThen_ok, run_loadVar_row w B _ 23 #[.int .i64 k, .int .i64 m, .int .i64 s] (0, 0) _ h Tryz.underlying23 rfl (size_geo13 k m s)]
theorem Geo13.c0 {w : World} {B : Nat} {k m s : Int} (h : Geo13 w B k m s) : w.cell? ⟨B, 0, none⟩ = some (.int .i64 k) := by rw [cell_of_row _ _ _ _ _ _ h]; rfl
theorem Geo13.c1 {w : World} {B : Nat} {k m s : Int} (h : Geo13 w B k m s) : w.cell? ⟨B, 1, none⟩ = some (.int .i64 m) := by rw [cell_of_row _ _ _ _ _ _ h]; rfl
theorem Geo13.c2 {w : World} {B : Nat} {k m s : Int} (h : Geo13 w B k m s) : w.cell? ⟨B, 2, none⟩ = some (.int .i64 s) := by rw [cell_of_row _ _ _ _ _ _ h]; rfl
theorem tell_in {xs : List Dv} {z : Int} {c e : Int} (h1 : 0 ≤ z) (h2 : z < (xs.length : Int)) : tellD xs z (fun _ => c) e = c := by
 obtain ⟨i, rfl⟩ : ∃ i : Nat, z = (i : Int) := ⟨z.toNat, by omega⟩
 rw [tellD_yes (List.getElem?_eq_getElem (by omega))]
theorem flushN_all {xs : List Dv} (h : ∀ (d : Nat) (x : Dv), xs[d]? = some x → x.gone = false) : flushN xs xs.length = xs.length := by
 unfold flushN flushA
 rw [List.take_length, List.count_eq_length.2 (fun z hz => ?_), List.length_map]
 obtain ⟨x, hx, rfl⟩ := List.mem_map.1 hz
 obtain ⟨d, hd, rfl⟩ := List.getElem_of_mem hx
 rw [Dv.flushX, if_neg (by rw [h d _ (List.getElem?_eq_getElem hd)]; decide)]
section
variable {Rep : World → (Nat → Prop) → Nat → Dv → Prop}
theorem live_new13 {n N : Nat} : ∀ d, d < n → liveG (List.replicate n (Dv.new N)) d = true := fun d hd => by
 rw [liveG_at (x := Dv.new N) (by rw [List.getElem?_replicate, if_pos hd])]; rfl
theorem holds13_any (DK : DrvK Rep) (SK : StrK Rep) (w : World) (hN0 : Nt w) : Calls Tryz.prog 8 #[] w (SaysTrue w) := by
 have hr : RefOk 3 1 5 ([97, 98, 99] : List UInt8).length (44 * 2) := ⟨by decide, by decide, by decide, by decide, by decide, by decide⟩
 have HR := Lib.hid hr
 clear hr
 go_enter Tryz.func8, Tryz.ntmps8
 go_wp2_with fail
 refine (made13_any DK 2 1 3 (by decide) (by decide) (by decide) (by decide) (by decide) w).mono ?_; intro e w1 hm
 obtain ⟨A, S1, C, F, T, rfl, hL, -, -⟩ := Lc13.made hm (Below.refl _ _) hN0
 have L1 := Lib.hid hL
 clear hN0
 have kc := Lib.run_convert_bytes_const (P := Tryz.prog) (w1.alloc (.cells #[.int .u8 3, .int .i64 1, .int .u64 5] 34)) 24 5 #[.int .u8 97, .int .u8 98, .int .u8 99] 3 3 Tryz.underlying24 Tryz.underlying5
 rw [show (w1.alloc (.cells #[.int .u8 3, .int .i64 1, .int .u64 5] 34)).heap.size = w1.heap.size + 1 from by simp] at kc
 clear hm hL
 go_wp2_with fail
 have hb := ((Below.refl w1.heap.size w1).alloc (Nat.le_refl _) (.cells #[.int .u8 3, .int .i64 1, .int .u64 5] 34)).alloc (by simp) (.cells #[.int .u8 97, .int .u8 98, .int .u8 99] 5 (3, 4))
 have hrow : Rf13 ((w1.alloc (.cells #[.int .u8 3, .int .i64 1, .int .u64 5] 34)).alloc (.cells #[.int .u8 97, .int .u8 98, .int .u8 99] 5 (3, 4))) w1.heap.size 3 1 5 := (((Below.refl _ _).alloc (Nat.le_refl _) _).block _ (by simp)).trans (heap_alloc_new w1 _)
 have hsl : Sl ((w1.alloc (.cells #[.int .u8 3, .int .i64 1, .int .u64 5] 34)).alloc (.cells #[.int .u8 97, .int .u8 98, .int .u8 99] 5 (3, 4))) 1 (some ⟨w1.heap.size + 1, 0, none⟩) 3 3 (cells [97, 98, 99]) := by
  have h := Sl.consts (w := w1.alloc (.cells #[.int .u8 3, .int .i64 1, .int .u64 5] 34)) (t := 5) (cs := #[.int .u8 97, .int .u8 98, .int .u8 99]) (fr := (3, 4)) [97, 98, 99] 3 rfl (by decide) rfl
  rwa [show (w1.alloc (.cells #[.int .u8 3, .int .i64 1, .int .u64 5] 34)).heap.size = w1.heap.size + 1 from by simp] at h
 obtain ⟨wb, hwb⟩ : ∃ wb, wb = ((w1.alloc (.cells #[.int .u8 3, .int .i64 1, .int .u64 5] 34)).alloc (.cells #[.int .u8 97, .int .u8 98, .int .u8 99] 5 (3, 4))) := ⟨_, rfl⟩
 rw [← hwb] at hb hrow hsl ⊢
 obtain ⟨B, hB⟩ : ∃ B, B = w1.heap.size := ⟨_, rfl⟩
 have hS : ∀ b, S1 b → b < B := fun b q => by have := L1.out.ac.a.old q; omega
 have Lb := Lib.hid (L1.out.later DK hb)
 rw [← hB] at hrow hsl ⊢
 have hp := SK.put 3 1 5 [97, 98, 99] (some ⟨B + 1, 0, none⟩) 3 Lb.out.ac HR.out (by decide) hsl (fun bb o _ hA q => by injection hA with hA; injection hA with hA _; have := hS _ q; omega)
 rw [cntG_all (n := 2 + 1) live_new13] at hp
 have hst := Str.put (p := 1) (N := 3) (kd := 3) (g := 5) (k := 2) (b := [97, 98, 99]) Lb.out.ac.len Lb.out.ac.n (by decide) HR.out (by decide)
 clear kc L1 hwb
 refine hp.mono ?_; clear hp; rintro e w2 ⟨rfl, hm⟩
 obtain ⟨S2, hL2, hN2⟩ := Lb.out.mut hm hst.len hst.ns (Wl.mono13 (putAll_wl (c := 0) (fun d x hx => by rw [Idle.new d x hx]; exact Nat.le_refl _)) (by decide))
 have hst2 := hst.congr (H := fun _ => true) live_new13
 have hrow2 : Rf13 w2 B 3 1 5 := hN2.1.row_some hrow (fun q => by have := hS _ q; omega)
 have L2 := Lib.hid hL2
 have T2 := Lib.hid hst2
 have R2 := Lib.hid hrow2
 have hB2 : B < w2.heap.size := block_lt hrow2
 have SB2 := Lib.hid (show ¬ S2 B from fun q => (hN2.2 _ q).elim (fun q => by have := hS _ q; omega) (fun q => by have := block_lt hrow; omega))
 clear hm hL2 hN2 hst hst2 hrow hrow2 hsl hb Lb hS hB
 obtain ⟨xs2, hxs2⟩ : ∃ xs2, xs2 = putAll 2 (2 + 1) 3 1 5 [97, 98, 99] (List.replicate (2 + 1) (Dv.new 3)) := ⟨_, rfl⟩
 rw [← hxs2] at L2 T2
 clear hxs2
 go_wp2_with fail
 refine (arfail_any DK L2.out.ac.a (by rw [L2.out.ac.len]; decide) 1).mono ?_; rintro e w3 ⟨rfl, hm⟩
 rw [tell_in (by decide) (by rw [L2.out.ac.len]; decide)]
 have hst := T2.out.fail (d := 1) (by decide)
 obtain ⟨S3, hL3, hN3⟩ := L2.out.mut hm onD_len hst.ns (onD_wl L2.out.ac.wl (fun x _ => Nat.zero_le _))
 have R3 := Lib.hid (show Rf13 w3 B 3 1 5 from hN3.1.row_some R2.out SB2.out)
 have SB3 := Lib.hid (show ¬ S3 B from fun q => (hN3.2 _ q).elim SB2.out (fun q => by omega))
 have hB3 : B < w3.heap.size := Nat.lt_of_lt_of_le hB2 hN3.1.size
 have L3 := Lib.hid hL3
 have T3 := Lib.hid hst
 clear hm hst hL3 hN3 L2 T2 R2 SB2 hB2
 obtain ⟨xs3, hxs3⟩ : ∃ xs3, xs3 = onD xs2 1 (fun x => x.fail) := ⟨_, rfl⟩
 have T3 := Lib.hid (show Str xs3 2 (2 + 1) 3 3 1 5 [97, 98, 99] (fun e => if e = 1 then false else true) from hxs3 ▸ T3.out)
 rw [← hxs3] at L3
 clear hxs3
 go_wp2_with (refine at_dst11 (d := 33) ?_; refine wpList_step11 (o := ⟨some 33, _, _, _, _, _⟩) rfl _ w3 (step_ref13 (x := .tmp 3) rfl rfl R3.out) ?_)
 have hg := SK.get L3.out.ac HR.out (by decide) T3.out
 rw [if_pos (by decide), if_pos (by decide)] at hg
 refine hg.mono ?_; clear hg; rintro e w4 ⟨A4, n4, c4, rfl, hs4, hb4, hlo4⟩
 obtain rfl : n4 = 3 := by have := hs4.len; rw [cells_length, Nat.mul_one] at this; exact this.symm
 have HA4 := Lib.hid (show ∀ b o, 0 < 3 → A4 = some ⟨b, o, none⟩ → ¬ S3 b from fun b o _ hA q => by have := hlo4 b o (by decide) hA; have := L3.out.ac.a.old q; omega)
 have S4 := Lib.hid hs4
 have L4 := Lib.hid (L3.out.later DK hb4)
 have R4 := Lib.hid (show Rf13 w4 B 3 1 5 from (hb4.block _ hB3).trans R3.out)
 have hB4 : B < w4.heap.size := Nat.lt_of_lt_of_le hB3 hb4.size
 clear hs4 hlo4 hb4 hB3 R3 L3
 go_wp2_with (refine at_dst11 (d := 39) ?_; refine wpList_step11 (o := ⟨some 39, _, _, _, _, _⟩) rfl _ w4 (step_ref13 (x := .tmp 3) rfl rfl R4.out) ?_)
 have hg := SK.whole L4.out.ac HR.out (by decide) T3.out
 refine hg.mono ?_; clear hg; rintro e w5 ⟨A5, c5, rfl, hs5, hb5, hlo5⟩
 rw [show ((List.range (2 + 1)).map fun i => (fun e => if e = 1 then false else true) (homeN (2 + 1) 1 i)) = [false, true, true] from by decide] at hs5
 have HA5 := Lib.hid (show ∀ b o, 0 < 2 + 1 → A5 = some ⟨b, o, none⟩ → ¬ S3 b from fun b o _ hA q => by have := hlo5 b o hA; have := L4.out.ac.a.old q; omega)
 have S5 := Lib.hid hs5
 have S4 := Lib.hid (S4.out.below hb5 (Nat.le_refl _))
 have L5 := Lib.hid (L4.out.later DK hb5)
 have R5 := Lib.hid (show Rf13 w5 B 3 1 5 from (hb5.block _ hB4).trans R4.out)
 have hB5 : B < w5.heap.size := Nat.lt_of_lt_of_le hB4 hb5.size
 clear hs5 hlo5 hb5 hB4 R4 L4
 go_wp2_with fail
 refine (arfail_any DK L5.out.ac.a (by rw [L5.out.ac.len]; decide) 2).mono ?_; rintro e w6 ⟨rfl, hm⟩
 rw [tell_in (by decide) (by rw [L5.out.ac.len]; decide)]
 have hst := T3.out.fail (d := 2) (by decide)
 obtain ⟨S6, hL6, hN6⟩ := L5.out.mut hm onD_len hst.ns (onD_wl L5.out.ac.wl (fun x _ => Nat.zero_le _))
 have R6 := Lib.hid (show Rf13 w6 B 3 1 5 from hN6.1.row_some R5.out SB3.out)
 have hB6 : B < w6.heap.size := Nat.lt_of_lt_of_le hB5 hN6.1.size
 have S4 := Lib.hid (S4.out.fr hN6.1 HA4.out)
 have S5 := Lib.hid (S5.out.fr hN6.1 HA5.out)
 have L6 := Lib.hid hL6
 have T6 := Lib.hid hst
 clear hm hst hL6 hN6 L5 T3 R5 hB5
 go_wp2_with (refine at_dst11 (d := 46) ?_; refine wpList_step11 (o := ⟨some 46, _, _, _, _, _⟩) rfl _ w6 (step_ref13 (x := .tmp 3) rfl rfl R6.out) ?_)
 have hg := SK.get L6.out.ac HR.out (by decide) T6.out
 rw [if_neg (by decide), if_neg (by decide)] at hg
 refine hg.mono ?_; clear hg; rintro e w7 ⟨A7, n7, c7, rfl, -, hb7, -⟩
 have L7 := Lib.hid (L6.out.later DK hb7)
 have S4 := Lib.hid (S4.out.below hb7 (Nat.le_refl _))
 obtain ⟨b5, o5, rfl, hc5⟩ := (S5.out.below hb7 (Nat.le_refl _)).at_ (show 0 < 2 + 1 by decide)
 have c0 := hc5 0 (.bool false) rfl
 rw [Nat.add_zero] at c0
 have c1 := hc5 1 (.bool true) rfl
 have c2 := hc5 2 (.bool true) rfl
 have k4 := str_of S4.out
 rw [show bstr [97, 98, 99] = { data := #[97, 98, 99] } from rfl] at k4
 have hh := SK.home w7 5 7 4 (by decide) (by decide) (by decide) (by decide)
 clear hb7 L6 T6 R6 S5 hc5
 go_wp2_with fail
 refine hh.mono ?_; clear hh; rintro e w8 ⟨rfl, hb8⟩
 rw [show homeN 5 7 4 = 1 from by decide]
 have L8 := Lib.hid (L7.out.later DK hb8)
 clear hb8 c0 c1 c2 k4
 go_wp2_with fail
 refine (SK.room L8.out.ac.c).mono ?_; rintro e w9 ⟨rfl, hb9⟩
 have B9 := Lib.hid (L8.out.bel.trans (hb9.mono L8.out.bel.size))
 clear hb9
 go_wp2_with fail
 go_ret
 exact ⟨rfl, B9.out⟩
end
end Go.Proofs.YtajdholblmdnjaaGreatDoor
