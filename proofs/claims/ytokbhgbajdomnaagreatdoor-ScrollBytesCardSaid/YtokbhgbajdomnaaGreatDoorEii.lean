/-
  The statement's own example ('rolls') answers true. Conditions: drives as 'DrvK' says; stripes as 'StrV' says; both tables read as the row lists them.
-/
import Derived.Test.YtokbhgbajdomnaaGreatDoorEif
import Derived.Test.YtokbhgbajdomnaaGreatDoorEih
set_option linter.unusedVariables false
set_option maxRecDepth 100000
set_option maxHeartbeats 3200000
namespace Go.Proofs.YtokbhgbajdomnaaGreatDoor
open Go.RowKit Go.Proofs
theorem lt_x16 : Lt12 5 3 (newP 2 5).f [0, 1, 2] := by
 have h := least_yes15 (n := 5) (m := 3) (f := (newP 2 5).f) (by decide +kernel)
 rw [show leastD 5 (newP 2 5).f ((3 : Nat) : Int) = [0, 1, 2] from by decide +kernel] at h
 exact h
def xv16 : List UInt8 := (List.replicate 70 0).set 69 7
theorem step_scb16 {ρ : Operand → Value} {o : Oper} {a b c d : Operand} {w : World} {x y z u : Int} (ho : o.op = .build 38 #[(0, a), (1, b), (2, c), (3, d)]) (h0 : ρ a = .int .i64 x) (h1 : ρ b = .int .u64 y) (h2 : ρ c = .int .i64 z) (h3 : ρ d = .int .i64 u) :
  (execOp ρ o).run Tryz.prog w = .ok (.value (.agg #[.int .i64 x, .int .u64 y, .int .i64 z, .int .i64 u])) w := by
 have hb : Tryz.prog.built 38 [(0, .int .i64 x), (1, .int .u64 y), (2, .int .i64 z), (3, .int .i64 u)] = some #[.int .i64 x, .int .u64 y, .int .i64 z, .int .i64 u] := by kernel_rfl
 have h := run_build w 38 #[(0, .int .i64 x), (1, .int .u64 y), (2, .int .i64 z), (3, .int .i64 u)] _ hb
 unfold execOp
 simp [ho, h0, h1, h2, h3, h, Result.andThen]
section
variable {Rep : World → (Nat → Prop) → Nat → Dv → Prop} {Good : Nat → Nat → (Nat → Bool) → Prop}
theorem rolls16_any (DK : DrvK Rep) (SV : StrV Rep Good) (hGd : Good 1 (1 + 1) (fun _ => true)) (w : World) (hN : Nt w) (hT : Tz w) : Calls Tryz.prog 10 #[] w (SaysTrue w) := by
 have hmk := make_eq 70 70 rfl (by decide)
 have HN := qH hN
 have HT := qH hT
 clear hN hT
 go_enter Tryz.func10, Tryz.ntmps10
 go_wp2_with fail
 refine (made15_any DK 1 1 2 5 (by decide) (by decide) (by decide) (by decide) (by decide) (by decide) w).mono ?_; intro e w1 hm
 obtain ⟨A, S, C, F, T, U, P, rfl, hL, hb1, -⟩ := Lc15.made hm (Below.refl _ _) HN.out
 have L1 := qH hL
 clear hm hL
 have hr := Rw.new w1 (madeCells #[.int .u8 0] 70) 5 1 70 (by rw [size_madeCells]) (by decide)
 rw [toList_madeCells_one] at hr
 have q0 := hr.cell (j := 69) (v := .int .u8 0) rfl
 have q1 := hr.free 69
 have hr2 := Rw.new w1 ((madeCells #[.int .u8 0] 70).setIfInBounds 69 (.int .u8 7)) 5 1 70 (by rw [Array.size_setIfInBounds, size_madeCells]) (by decide)
 rw [Array.toList_setIfInBounds, toList_madeCells_one, show (List.replicate 70 (Value.int .u8 0)).set 69 (.int .u8 7) = cells xv16 from rfl] at hr2
 have hb2 : Below w1.heap.size w1 (w1.alloc (.cells ((madeCells #[.int .u8 0] 70).setIfInBounds 69 (.int .u8 7)) 5)) := (Below.refl _ _).alloc (Nat.le_refl _) _
 have HR2 := qH hr2
 have HB2 := qH hb2
 clear hr hr2 hb2
 go_wp2_with fail
 obtain ⟨w2, hw2⟩ : ∃ x, x = w1.alloc (.cells ((madeCells #[.int .u8 0] 70).setIfInBounds 69 (.int .u8 7)) 5) := ⟨_, rfl⟩
 rw [← hw2] at HR2 HB2 ⊢
 clear hw2 hmk q0 q1
 obtain ⟨X, hX⟩ : ∃ X, X = w1.heap.size := ⟨_, rfl⟩
 have hfX := L1.out.fresh (b := X) (by omega)
 rw [← hX] at HR2 ⊢
 have HFX := qH hfX
 have L2 := qH (L1.out.later DK HB2.out)
 obtain ⟨xv, hxv⟩ : ∃ xv, xv = xv16 := ⟨_, rfl⟩
 rw [← hxv] at HR2
 have HXV := qH hxv
 have hp := put16_yes (c := 0) DK SV L2.out HT.out 34 (by decide) xv (some ⟨X, 0, none⟩) 70 70 3 [0, 1, 2] (by rw [hxv]; decide) (by decide) HR2.out.sl (fun bb o _ e => by
  injection e with e
  injection e with e _
  subst e
  exact ⟨HFX.out.1, HFX.out.2.1⟩) (by decide) (by decide) (by decide +kernel) lt_x16 (by decide) (by decide) (by decide) (Bare.new (by decide)) Idle.new.wl0 (by decide)
 unfold RetPut16 at hp
 rw [show xv.length = 70 from by rw [hxv]; decide, show genP (newP 2 5) = 0 from rfl] at hp
 clear hxv hX hfX L1
 refine hp.mono ?_; clear hp; rintro e w3 ⟨bb, S3, rfl, hrb, hbb, hnb, hL, hf, hS3⟩
 have hv0 : VOk 1 7 [2, 3, 4] 0 := vok15 (p := newP 2 5) lt_x16 (by decide) (by decide) (by decide) (by decide) (by decide)
 have hns := fun (d : Nat) (x : Dv) (h : (List.replicate (1 + 1) (Dv.new 7))[d]? = some x) => L2.out.lc.ac.n d x h
 have hval : ValT (putT 1 (1 + 1) 4 [2, 3, 4] 0 (leafL 1 [2, 3, 4] 0 xv) (List.replicate (1 + 1) (Dv.new 7)) 3) 1 (1 + 1) 7 4 [2, 3, 4] 0 (leafL 1 [2, 3, 4] 0 xv) (fun _ _ => true) := fun i hi => putT_val hv0 (leaf_ok (by decide)) (by rw [List.length_replicate]) hns new_gone 3 (Nat.le_refl _) i hi
 have hL : Lc15 Rep w w3 S3 A C 1 1 F T 7 (putT 1 (1 + 1) 4 [2, 3, 4] 0 (leafL 1 [2, 3, 4] 0 xv) (List.replicate (1 + 1) (Dv.new 7)) 3) U P (takenP (newP 2 5) [0, 1, 2] 3) := hL
 obtain ⟨xs3, hxs3⟩ : ∃ xs3, xs3 = putT 1 (1 + 1) 4 [2, 3, 4] 0 (leafL 1 [2, 3, 4] 0 xv) (List.replicate (1 + 1) (Dv.new 7)) 3 := ⟨_, rfl⟩
 rw [← hxs3] at hval hL
 have HV0 := qH hv0
 have HVAL := qH hval
 have L3 := qH hL
 have R3 := qH (show Rw w3 bb 3 1 3 3 (ncells [2, 3, 4]) from hrb)
 have V3 := qH (HR2.out.sl.fr hf (fun bo o _ e => by
  injection e with e
  injection e with e _
  subst e
  exact fun q => q.elim HFX.out.1 HFX.out.2.1))
 have sz := qH (size_sc16 2 0 3 70)
 have hb4 : Below w3.heap.size w3 (w3.alloc (.cells #[.int .i64 2, .int .u64 0, .int .i64 3, .int .i64 70] 38)) := (Below.refl _ _).alloc (Nat.le_refl _) _
 have hy4 := Sc16.new (w := w3) (a := 2) (g := 0) (c := 3) (z := 70)
 have HB4 := qH hb4
 have HY4 := qH hy4
 clear hv0 hns hval hxs3 hL hrb hbb hnb hf hS3 HR2 L2 hb1 HB2 hb4 hy4
 go_wp2_with (first
  | (refine at_none ?_; refine wpList_store_row (o := ⟨none, _, _, _, _, _⟩) rfl 38 (.tmp 5) (.tmp 26) rfl w3.heap.size #[.int .i64 2, .int .u64 0, .int .i64 3, .int .i64 70] rfl rfl 38 _ (heap_alloc_last _ _) sz.out rfl one_sc16 ?_; rw [World.setRow_alloc_new])
  | (refine at_dst11 (d := 32) ?_; refine wpList_step11 (o := ⟨some 32, _, _, _, _, _⟩) rfl _ _ (step_sc16 (x := .tmp 5) rfl rfl HY4.out) ?_))
 obtain ⟨w4, hw4⟩ : ∃ x, x = w3.alloc (.cells #[.int .i64 2, .int .u64 0, .int .i64 3, .int .i64 70] 38) := ⟨_, rfl⟩
 rw [← hw4] at HB4 HY4 ⊢
 clear hw4
 obtain ⟨Y, hY⟩ : ∃ Y, Y = w3.heap.size := ⟨_, rfl⟩
 rw [← hY] at HY4 ⊢
 have L4 := qH (L3.out.later DK HB4.out)
 have R4 := qH (R3.out.later HB4.out)
 have V4 := qH (V3.out.below HB4.out (Nat.le_refl _))
 have hgt := get16_any DK SV L4.out.lc.ac 34 (by decide) [2, 3, 4] 0 xv 70 3 3 2 (fun _ _ => true) (by rw [HXV.out]; decide) (by decide) (by decide) (by decide) rfl rfl HV0.out HVAL.out (fun _ _ _ => hGd) (fun h => absurd h (by decide))
 clear hY L3 R3 V3
 refine hgt.mono ?_; clear hgt; rintro e w5 (⟨_, A5, c5, A6, c6, rfl, hs5, hs6, hb5, -⟩ | ⟨h, _⟩)
 rotate_left
 ·exact absurd h (by decide)
 have L5 := qH (L4.out.later DK hb5)
 have R5 := qH (R4.out.later hb5)
 have V5 := qH (V4.out.below hb5 (Nat.le_refl _))
 have Y5 := qH (HY4.out.later hb5)
 have S5 := qH hs5
 have S6 := qH hs6
 have c0 := Y5.out.c0
 have c2 := Y5.out.c2
 have c3 := Y5.out.c3
 have hbi : Below w5.heap.size w5 (w5.alloc (.cells #[.int .i64 2, .int .i64 3, .int .i64 4] 3)) := (Below.refl _ _).alloc (Nat.le_refl _) _
 have hsi := Sl.made w5 #[.int .i64 2, .int .i64 3, .int .i64 4] 3 1 3 rfl (by decide)
 have HBI := qH hbi
 have HSI := qH hsi
 clear hs5 hs6 hb5 L4 R4 V4 HY4 hbi hsi
 go_wp2_with fail
 clear c0 c2 c3
 obtain ⟨w6, hw6⟩ : ∃ x, x = w5.alloc (.cells #[.int .i64 2, .int .i64 3, .int .i64 4] 3) := ⟨_, rfl⟩
 rw [← hw6] at HBI HSI ⊢
 clear hw6
 refine (rints_any (some ⟨bb, 0, none⟩) 3 3 [2, 3, 4] (some ⟨w5.heap.size, 0, none⟩) 3 3 [2, 3, 4] w6 (R5.out.later HBI.out).sl HSI.out).mono ?_; rintro e w7 ⟨rfl, hb7⟩
 rw [show decide (([2, 3, 4] : List Nat) = [2, 3, 4]) = true from by decide]
 have B7 := qH (HBI.out.trans (hb7.mono HBI.out.size))
 have L7 := qH (L5.out.later DK B7.out)
 have k1 := run_string_of (P := Tryz.prog) 40 5 9 Tryz.underlying40 Tryz.underlying5 Tryz.underlying9 (S5.out.below B7.out (Nat.le_refl _))
 have k2 := run_string_of (P := Tryz.prog) 40 5 9 Tryz.underlying40 Tryz.underlying5 Tryz.underlying9 (V5.out.below B7.out (Nat.le_refl _))
 have h2 := rints_any A6 3 c6 [2, 3, 4] (some ⟨bb, 0, none⟩) 3 3 [2, 3, 4] w7 (S6.out.below B7.out (Nat.le_refl _)) (R5.out.later B7.out).sl
 rw [show decide (([2, 3, 4] : List Nat) = [2, 3, 4]) = true from by decide] at h2
 obtain ⟨sx, hsx⟩ : ∃ sx, sx = bstr xv := ⟨_, rfl⟩
 rw [← hsx] at k1 k2
 clear hb7 L5 HBI HSI hsx
 go_wp2_with fail
 clear k1 k2
 refine h2.mono ?_; clear h2; rintro e w8 ⟨rfl, hb8⟩
 have L8 := qH (L7.out.later DK hb8)
 have h3 := count16 L8.out.lc.ac.c (r := 34) (by decide) 34 (by decide) (by decide)
 rw [show cntZ 34 34 = 1 from by decide] at h3
 clear hb8 L7 B7
 go_wp2_with fail
 refine h3.mono ?_; clear h3; rintro e w9 ⟨rfl, hb⟩
 have L9 := qH (L8.out.later DK hb)
 have h3 := count16 L9.out.lc.ac.c (r := 34) (by decide) 35 (by decide) (by decide)
 rw [show cntZ 34 35 = 2 from by decide] at h3
 clear hb L8
 go_wp2_with fail
 refine h3.mono ?_; clear h3; rintro e w10 ⟨rfl, hb⟩
 have L10 := qH (L9.out.later DK hb)
 have h4 := putBytes16 none 0 0 [] 258 1 (by decide) 2 3 w10 (Sl.nil w10 1 0 (by decide)) (by decide)
 rw [show ([] : List UInt8) ++ scB 258 1 2 3 = [2, 1, 1, 0, 0, 0, 0, 0, 0, 0, 2, 0, 3, 0, 0, 0] from by decide +kernel] at h4
 clear hb L9
 go_wp2_with (refine at_dst11 (d := 86) ?_; refine wpList_step11 (o := ⟨some 86, _, _, _, _, _⟩) rfl _ w10 (step_scb16 (x := 258) (y := 1) (z := 2) (u := 3) (a := .const (.int .i64 258)) (b := .const (.int .u64 1)) (c := .const (.int .i64 2)) (d := .const (.int .i64 3)) rfl rfl rfl rfl rfl) ?_)
 refine h4.mono ?_; clear h4; rintro e w11 ⟨A11, n11, c11, rfl, hs11, hb⟩
 have BZ := qH (L10.out.lc.bel.trans (hb.mono L10.out.lc.bel.size))
 have k3 := run_string_of (P := Tryz.prog) 40 5 9 Tryz.underlying40 Tryz.underlying5 Tryz.underlying9 hs11
 rw [show bstr [2, 1, 1, 0, 0, 0, 0, 0, 0, 0, 2, 0, 3, 0, 0, 0] = { data := #[2, 1, 1, 0, 0, 0, 0, 0, 0, 0, 2, 0, 3, 0, 0, 0] } from rfl] at k3
 clear hs11 hb L10
 go_wp2_with fail
 go_ret
 exact ⟨rfl, BZ.out⟩
end
end Go.Proofs.YtokbhgbajdomnaaGreatDoor
