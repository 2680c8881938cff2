/-
  The statement's own example ('keeps') answers true. Conditions: drives as 'DrvK' says; values as 'StrV' says; both tables read as the row lists them. (Written by gen_ehk.py.)
-/
import Derived.Test.YthmneinejfbheaaGreatDoorEhj
import Derived.Test.YthmneinejfbheaaGreatDoorEhh
set_option linter.unusedVariables false
set_option maxRecDepth 100000
set_option maxHeartbeats 3200000
namespace Go.Proofs.YthmneinejfbheaaGreatDoor
open Go.RowKit Go.Proofs
theorem flds_ref15 : (Tryz.prog.fieldsOf 35).toList.map (fun f => (decide (f.name ≠ "_"), f.type, f.offset)) = [(true, 5, 0), (true, 3, 1), (true, 23, 2)] := by kernel_rfl
theorem und_ref15 : Tryz.prog.underlying 35 = some (.struct (Tryz.prog.fieldsOf 35)) := by kernel_rfl
theorem stood_ref15 : Tryz.prog.stoodInHeld 35 = false := by kernel_rfl
theorem eq_ref15 (w : World) (r : Int × Int × Int) : (Op.equalIn 10000 35 (.agg (r3c r).toArray) (.agg (r3c r).toArray)).run Tryz.prog w = .ok true w := by
 have h0 := run_equalIn_struct (P := Tryz.prog) w 9999 35 (r3c r).toArray (r3c r).toArray und_ref15 stood_ref15
 rw [eqFields_trip, flds_ref15] at h0
 refine h0.trans ?_
 have h3 := eqTrip_int (P := Tryz.prog) (d := 9998) w Tryz.underlying5 (o := 0) (a := r.1) (b := r.1) (xs := (r3c r).toArray) (ys := (r3c r).toArray) rfl rfl _ (eqTrip_int w Tryz.underlying3 (o := 1) (a := r.2.1) (b := r.2.1) rfl rfl _ (eqTrip_int w Tryz.underlying23 (o := 2) (a := r.2.2) (b := r.2.2) rfl rfl [] (r := true) rfl))
 simpa using h3
theorem eqg_ref15 : Tryz.prog.eqGuardType Tryz.prog.depth 35 = false := by kernel_rfl
theorem step_eqr15 {ρ : Operand → Value} {o : Oper} {x y : Operand} {w : World} {r : Int × Int × Int} {T : TypeId} (ho : o.op = .binOp .eql 35 x y T) (hx : ρ x = .agg (r3c r).toArray) (hy : ρ y = .agg (r3c r).toArray) : (execOp ρ o).run Tryz.prog w = .ok (.value (.bool true)) w := by
 have h : (binOp .eql 35 (.agg (r3c r).toArray) (.agg (r3c r).toArray)).run Tryz.prog w = .ok (.bool true) w := by rw [run_eql_struct, eq_ref15]; rfl
 have g := fun op => run_eqGuard_agg (P := Tryz.prog) w op 35 x y (r3c r).toArray (r3c r).toArray eqg_ref15
 unfold execOp
 simp [ho, hx, hy, h, g, Result.andThen]
theorem step_ner15 {ρ : Operand → Value} {o : Oper} {x y : Operand} {w : World} {r : Int × Int × Int} {T : TypeId} (ho : o.op = .binOp .neq 35 x y T) (hx : ρ x = .agg (r3c r).toArray) (hy : ρ y = .agg (r3c r).toArray) : (execOp ρ o).run Tryz.prog w = .ok (.value (.bool false)) w := by
 have h : (binOp .neq 35 (.agg (r3c r).toArray) (.agg (r3c r).toArray)).run Tryz.prog w = .ok (.bool false) w := by rw [run_neq_struct, eq_ref15]; rfl
 have g := fun op => run_eqGuard_agg (P := Tryz.prog) w op 35 x y (r3c r).toArray (r3c r).toArray eqg_ref15
 unfold execOp
 simp [ho, hx, hy, h, g, Result.andThen]
theorem step_blb15 {ρ : Operand → Value} {o : Oper} {a b c : Operand} {w : World} {A : Option Addr} {n cp : Nat} {g z : Int} (ho : o.op = .build 25 #[(2, a), (1, b), (0, c)]) (h0 : ρ a = .int .i64 z) (h1 : ρ b = .int .u64 g) (h2 : ρ c = .slice A n cp) :
  (execOp ρ o).run Tryz.prog w = .ok (.value (.agg #[.slice A n cp, .int .u64 g, .int .i64 z])) w := by
 have hb : Tryz.prog.built 25 [(2, .int .i64 z), (1, .int .u64 g), (0, .slice A n cp)] = some #[.slice A n cp, .int .u64 g, .int .i64 z] := by kernel_rfl
 have h := run_build w 25 #[(2, .int .i64 z), (1, .int .u64 g), (0, .slice A n cp)] _ hb
 unfold execOp
 simp [ho, h0, h1, h2, h, Result.andThen]
theorem lt_x15 : Lt12 5 3 (newP 2 5).f [0, 1, 2] := by
 have h := least_yes15 (n := 5) (m := 3) (f := (newP 2 5).f) (by decide +kernel)
 rw [show leastD 5 (newP 2 5).f ((3 : Nat) : Int) = [0, 1, 2] from by decide +kernel] at h
 exact h
def xv15 : List UInt8 := (List.replicate 100 0).set 99 7
section
variable {Rep : World → (Nat → Prop) → Nat → Dv → Prop} {Good : Nat → Nat → (Nat → Bool) → Prop}
theorem keeps15_any (DK : DrvK Rep) (SV : StrV Rep Good) (hGd : Good 1 (1 + 1) (fun _ => true)) (w : World) (hN : Nt w) (hT : Tz w) : Calls Tryz.prog 9 #[] w (SaysTrue w) := by
 have hmk := make_eq 100 100 rfl (by decide)
 have HN := qH hN
 have HT := qH hT
 clear hN hT
 go_enter Tryz.func9, Tryz.ntmps9
 go_wp2_with fail
 refine (made15_any DK 1 1 2 5 (by decide) (by decide) (by decide) (by decide) (by decide) (by decide) w).mono ?_; intro e w1 hm
 obtain ⟨A, S, C, F, T, U, P, rfl, hL, hb1, -⟩ := Lc15.made hm (Below.refl _ _) HN.out
 have L1 := qH hL
 clear hm hL
 have hr := Rw.new w1 (madeCells #[.int .u8 0] 100) 5 1 100 (by rw [size_madeCells]) (by decide)
 rw [toList_madeCells_one] at hr
 have q0 := hr.cell (j := 99) (v := .int .u8 0) rfl
 have q1 := hr.free 99
 have hr2 := Rw.new w1 ((madeCells #[.int .u8 0] 100).setIfInBounds 99 (.int .u8 7)) 5 1 100 (by rw [Array.size_setIfInBounds, size_madeCells]) (by decide)
 rw [Array.toList_setIfInBounds, toList_madeCells_one, show (List.replicate 100 (Value.int .u8 0)).set 99 (.int .u8 7) = cells xv15 from rfl] at hr2
 have hb2 : Below w1.heap.size w1 (w1.alloc (.cells ((madeCells #[.int .u8 0] 100).setIfInBounds 99 (.int .u8 7)) 5)) := (Below.refl _ _).alloc (Nat.le_refl _) _
 have HR2 := qH hr2
 have HB2 := qH hb2
 clear hr hr2 hb2
 go_wp2_with fail
 obtain ⟨w2, hw2⟩ : ∃ x, x = w1.alloc (.cells ((madeCells #[.int .u8 0] 100).setIfInBounds 99 (.int .u8 7)) 5) := ⟨_, rfl⟩
 rw [← hw2] at HR2 HB2 ⊢
 clear hw2 hmk q0 q1
 obtain ⟨X, hX⟩ : ∃ X, X = w1.heap.size := ⟨_, rfl⟩
 have hfX := L1.out.fresh (b := X) (by omega)
 rw [← hX] at HR2 ⊢
 have HFX := qH hfX
 have L2 := qH (L1.out.later DK HB2.out)
 obtain ⟨xv, hxv⟩ : ∃ xv, xv = xv15 := ⟨_, rfl⟩
 rw [← hxv] at HR2
 have HXV := qH hxv
 have hp := put15_yes (c := 0) DK SV L2.out HT.out xv (some ⟨X, 0, none⟩) 100 100 3 [0, 1, 2] (by rw [hxv]; decide) (by decide) HR2.out.sl (fun bb o _ e => by
  injection e with e
  injection e with e _
  subst e
  exact ⟨HFX.out.1, HFX.out.2.1⟩) (by decide) (by decide +kernel) lt_x15 (by decide) (by decide) (by decide) Idle.new.wl0 (by decide)
 unfold RetPut15 at hp
 rw [show xv.length = 100 from by rw [hxv]; decide, show genP (newP 2 5) = 0 from rfl] at hp
 clear hxv hX hfX L1
 refine hp.mono ?_; clear hp; rintro e w3 ⟨bb, S3, rfl, hrb, hbb, hnb, hL, hf, hS3⟩
 have hv0 : VOk 1 7 [2, 3, 4] 0 := vok15 (p := newP 2 5) lt_x15 (by decide) (by decide) (by decide) (by decide) (by decide)
 have hns := fun (d : Nat) (x : Dv) (h : (List.replicate (1 + 1) (Dv.new 7))[d]? = some x) => L2.out.lc.ac.n d x h
 have hval : Val (putV 1 (1 + 1) [2, 3, 4] 0 xv (List.replicate (1 + 1) (Dv.new 7)) 3) 1 (1 + 1) 7 [2, 3, 4] 0 xv (fun _ => true) := fun i hi => putV_val hv0 (by rw [List.length_replicate]) hns new_gone 3 (Nat.le_refl _) i hi
 have hL : Lc15 Rep w w3 S3 A C 1 1 F T 7 (putV 1 (1 + 1) [2, 3, 4] 0 xv (List.replicate (1 + 1) (Dv.new 7)) 3) U P (takenP (newP 2 5) [0, 1, 2] 3) := hL
 obtain ⟨xs3, hxs3⟩ : ∃ xs3, xs3 = putV 1 (1 + 1) [2, 3, 4] 0 xv (List.replicate (1 + 1) (Dv.new 7)) 3 := ⟨_, rfl⟩
 rw [← hxs3] at hval hL
 have HV0 := qH hv0
 have HVAL := qH hval
 have L3 := qH hL
 have R3 := qH (show Rw w3 bb 3 1 3 3 (ncells [2, 3, 4]) from hrb)
 have HNB := qH hnb
 have V3 := qH (HR2.out.sl.fr hf (fun bo o _ e => by
  injection e with e
  injection e with e _
  subst e
  exact fun q => q.elim HFX.out.1 HFX.out.2.1))
 have sz := qH (size_bl3 (A := some ⟨bb, 0, none⟩) (n := 3) (c := 3) (g := 0) (z := 100))
 clear hv0 hns hval hxs3 hL hrb hbb hnb hf hS3 HR2 L2 hb1 HB2
 go_wp2_with (first
  | (refine at_none ?_; refine wpList_store_row (o := ⟨none, _, _, _, _, _⟩) rfl 25 (.tmp 5) (.tmp 25) rfl w3.heap.size #[.slice (some ⟨bb, 0, none⟩) 3 3, .int .u64 0, .int .i64 100] rfl rfl 25 _ (heap_alloc_last _ _) sz.out rfl one_bl3 ?_; rw [World.setRow_alloc_new])
  | (refine at_dst11 (d := 30) ?_; refine wpList_step11 (o := ⟨some 30, _, _, _, _, _⟩) rfl _ _ (step_bl3 (x := .tmp 5) rfl rfl Bl3.new) ?_))
 have hb4 : Below w3.heap.size w3 (w3.alloc (.cells #[.slice (some ⟨bb, 0, none⟩) 3 3, .int .u64 0, .int .i64 100] 25)) := (Below.refl _ _).alloc (Nat.le_refl _) _
 have hy4 := Bl3.new (w := w3) (A := some ⟨bb, 0, none⟩) (n := 3) (c := 3) (g := 0) (z := 100)
 obtain ⟨w4, hw4⟩ : ∃ x, x = w3.alloc (.cells #[.slice (some ⟨bb, 0, none⟩) 3 3, .int .u64 0, .int .i64 100] 25) := ⟨_, rfl⟩
 rw [← hw4] at hb4 hy4 ⊢
 clear hw4
 obtain ⟨Y, hY⟩ : ∃ Y, Y = w3.heap.size := ⟨_, rfl⟩
 rw [← hY] at hy4 ⊢
 have L4 := qH (L3.out.later DK hb4)
 have R4 := qH (R3.out.later hb4)
 have V4 := qH (V3.out.below hb4 (Nat.le_refl _))
 have Y4 := qH hy4
 have hsl4 : Sl w4 1 (some ⟨bb, 0, none⟩) 3 3 (icells (intsOf [2, 3, 4])) := by rw [← ncells_icells15]; exact R4.out.sl
 have hgt := get15_yes DK SV L4.out.lc.ac [2, 3, 4] 0 xv 100 3 3 (some ⟨bb, 0, none⟩) (fun _ => true) (by rw [HXV.out]; decide) (by decide) (by decide) rfl HV0.out HVAL.out hGd hsl4
 unfold RetGet15 at hgt
 rw [show xv.length = 100 from by rw [HXV.out]; decide] at hgt
 clear hb4 hy4 hY hsl4 L3 R3 V3
 refine hgt.mono ?_; clear hgt; rintro e w5 ⟨A5, c5, rfl, hs5, hb5, -⟩
 have L5 := qH (L4.out.later DK hb5)
 have R5 := qH (R4.out.later hb5)
 have V5 := qH (V4.out.below hb5 (Nat.le_refl _))
 have Y5 := qH (Y4.out.later hb5)
 have S5 := qH hs5
 have hsl5 : Sl w5 1 (some ⟨bb, 0, none⟩) 3 3 (icells (intsOf [2, 3, 4])) := by rw [← ncells_icells15]; exact R5.out.sl
 have hrf := refs15 (some ⟨bb, 0, none⟩) 3 3 (intsOf [2, 3, 4]) 0 100 w5 hsl5 rfl (by decide)
 clear hs5 hb5 hsl5 L4 R4 V4 Y4
 go_wp2_with (refine at_dst11 (d := 34) ?_; refine wpList_step11 (o := ⟨some 34, _, _, _, _, _⟩) rfl _ w5 (step_bl3 (x := .tmp 5) rfl rfl Y5.out) ?_)
 refine hrf.mono ?_; clear hrf; rintro e w6 ⟨rb, rfl, hqr, hb6, -⟩
 have L6 := qH (L5.out.later DK hb6)
 have C0 := qH (Y5.out.later hb6).c0
 have C1 := qH (Y5.out.later hb6).c1
 have C2 := qH (Y5.out.later hb6).c2
 have HP := qH ((R5.out.later hb6).cell (j := 2) (v := .int .i64 4) rfl)
 have V6 := qH (V5.out.below hb6 (Nat.le_refl _))
 have S6 := qH (S5.out.below hb6 (Nat.le_refl _))
 have Q6 := qH (hqr.refAt (i := 2) (r := (3, 4, 2)) rfl)
 clear hqr hb6 L5 R5 V5 Y5 S5
 go_wp2_with fail
 have V6 := qH V6.out.drew
 have S6 := qH S6.out.drew
 have Q6 := qH (show w6.drew.rangeAt rb (2 * 3) (r3c (3, 4, 2)) from Q6.out)
 refine wp_region_held_drew (S := fun w' => Fr (fun _ => False) w6.drew w') (by kernel_rfl) (Fr.refl _ _) (fun hHeld => ?_)
 clear hHeld
 refine tA 0 (some 36) rfl (Fr.refl _ _) ?_
 refine tA 1 (some 37) rfl (Fr.refl _ _) ?_
 refine tA 2 (some 38) rfl (Fr.refl _ _) ?_
 refine tA 3 (some 39) rfl (Fr.refl _ _) ?_
 refine tL 4 (some 40) (v := ?vk4) rfl ?yk4 (Fr.refl _ _) ?rk4
 case yk4 =>
  intro wq hSw
  (try dsimp only at hSw)
  have hq := hSw.cell_some C2.out (fun h => h)
  go_simp <;> with_reducible rfl
 try simp only [Act.put,sA,sB,sC]
 refine tA 5 (some 41) rfl (Fr.refl _ _) ?_
 refine tA 6 (some 42) rfl (Fr.refl _ _) ?_
 refine tA 7 (some 43) rfl (Fr.refl _ _) ?_
 refine tA 8 (some 44) rfl (Fr.refl _ _) ?_
 refine tL 9 (some 45) (v := ?vk9) rfl ?yk9 (Fr.refl _ _) ?rk9
 case yk9 =>
  intro wq hSw
  (try dsimp only at hSw)
  have hq := hSw.cell_some C0.out (fun h => h)
  go_simp <;> with_reducible rfl
 try simp only [Act.put,sA,sB,sC]
 refine tA 10 (some 46) rfl (Fr.refl _ _) ?_
 refine tA 11 (some 47) rfl (Fr.refl _ _) ?_
 refine tA 12 (some 48) rfl (Fr.refl _ _) ?_
 refine tA 13 (some 49) rfl (Fr.refl _ _) ?_
 refine tA 14 (some 50) rfl (Fr.refl _ _) ?_
 refine tL 15 (some 51) (v := ?vk15) rfl ?yk15 (Fr.refl _ _) ?rk15
 case yk15 =>
  intro wq hSw
  (try dsimp only at hSw)
  have hq := hSw.cell_some C0.out (fun h => h)
  go_simp <;> with_reducible rfl
 try simp only [Act.put,sA,sB,sC]
 refine tA 16 (some 52) rfl (Fr.refl _ _) ?_
 refine tL 17 (some 53) (v := ?vk17) rfl ?yk17 (Fr.refl _ _) ?rk17
 case yk17 =>
  intro wq hSw
  (try dsimp only at hSw)
  have hq := hSw.cell_some HP.out (fun h => h)
  go_simp <;> with_reducible rfl
 try simp only [Act.put,sA,sB,sC]
 refine tA 18 (some 54) rfl (Fr.refl _ _) ?_
 refine tA 19 (some 55) rfl (Fr.refl _ _) ?_
 refine tA 20 (some 56) rfl (Fr.refl _ _) ?_
 refine tA 21 (some 57) rfl (Fr.refl _ _) ?_
 refine rW 22 (some 58) rfl fun K hK => ?_
 go_simp
 refine (free_any U P (takenP (newP 2 5) [0, 1, 2] 3) w6.drew (L6.out.later DK (Below.drew (Below.refl _ _))).pl ((L6.out.later DK (Below.drew (Below.refl _ _))).tz HT.out)).mono ?_; rintro e w7 ⟨rfl, hb⟩
 rw [show (((takenP (newP 2 5) [0, 1, 2] 3).n : Int) - (cntL (takenP (newP 2 5) [0, 1, 2] 3).n (takenP (newP 2 5) [0, 1, 2] 3).f : Int)) = 2 from by decide +kernel]
 have hfr : Fr (fun _ => False) w6.drew w7 := Fr.of_below hb
 have BZ := qH (L6.out.lc.bel.trans (((Below.drew (Below.refl _ _)).trans hb).mono L6.out.lc.bel.size))
 have C0 := qH (hfr.cell_some C0.out (fun h => h))
 have C1 := qH (hfr.cell_some C1.out (fun h => h))
 have C2 := qH (hfr.cell_some C2.out (fun h => h))
 have HP := qH (hfr.cell_some HP.out (fun h => h))
 have V6 := qH (V6.out.fr hfr (fun _ _ _ _ h => h))
 have S6 := qH (S6.out.fr hfr (fun _ _ _ _ h => h))
 have Q6 := qH (range_fr15 Q6.out hfr (fun h => h))
 clear hb
 go_wp2_with fail
 refine hK.out _ _ hfr (fun hHeld => ?_)
 clear hK K hHeld
 try simp only [Act.put,sA,sB,sC]
 refine wpAnyH_re (S' := fun w' => Fr (fun _ => False) w7 w') (fun w' h => hfr.trans h) ?_
 clear hfr
 refine tA 23 (some 59) rfl (Fr.refl _ _) ?_
 refine tA 24 (some 60) rfl (Fr.refl _ _) ?_
 refine tA 25 (some 61) rfl (Fr.refl _ _) ?_
 refine tA 26 (some 62) rfl (Fr.refl _ _) ?_
 refine tA 27 (some 63) rfl (Fr.refl _ _) ?_
 refine tA 28 (some 64) rfl (Fr.refl _ _) ?_
 refine tA 29 (some 65) rfl (Fr.refl _ _) ?_
 refine tA 30 (some 66) rfl (Fr.refl _ _) ?_
 refine tL 31 (some 67) (v := ?vk31) rfl ?yk31 (Fr.refl _ _) ?rk31
 case yk31 =>
  intro wq hSw
  (try dsimp only at hSw)
  have hq := run_string_of (P := Tryz.prog) 49 5 9 Tryz.underlying49 Tryz.underlying5 Tryz.underlying9 (S6.out.fr hSw (fun _ _ _ _ h => h))
  go_simp <;> with_reducible rfl
 try simp only [Act.put,sA,sB,sC]
 refine tA 32 (some 68) rfl (Fr.refl _ _) ?_
 refine tL 33 (some 69) (v := ?vk33) rfl ?yk33 (Fr.refl _ _) ?rk33
 case yk33 =>
  intro wq hSw
  (try dsimp only at hSw)
  have hq := run_string_of (P := Tryz.prog) 49 5 9 Tryz.underlying49 Tryz.underlying5 Tryz.underlying9 (V6.out.fr hSw (fun _ _ _ _ h => h))
  go_simp <;> with_reducible rfl
 try simp only [Act.put,sA,sB,sC]
 refine tA 34 (some 70) rfl (Fr.refl _ _) ?_
 refine tA 35 (some 71) rfl (Fr.refl _ _) ?_
 refine tA 36 (some 72) rfl (Fr.refl _ _) ?_
 refine tA 37 (some 73) rfl (Fr.refl _ _) ?_
 refine tA 38 (some 74) rfl (Fr.refl _ _) ?_
 refine tA 39 (some 75) rfl (Fr.refl _ _) ?_
 refine tA 40 (some 76) rfl (Fr.refl _ _) ?_
 refine tA 41 (some 77) rfl (Fr.refl _ _) ?_
 refine tA 42 (some 78) rfl (Fr.refl _ _) ?_
 refine tA 43 (some 79) rfl (Fr.refl _ _) ?_
 refine tL 44 (some 80) (v := (.agg (r3c (3, 4, 2)).toArray)) rfl ?yk44 (Fr.refl _ _) ?rk44
 case yk44 =>
  intro wq hSw
  exact step_ref15 (x := .tmp 79) rfl rfl (range_fr15 Q6.out hSw (fun h => h))
 try simp only [Act.put,sA,sB,sC]
 refine tA 45 (some 81) rfl (Fr.refl _ _) ?_
 refine tL 46 (some 82) (v := ?vk46) rfl ?yk46 (Fr.refl _ _) ?rk46
 case yk46 =>
  intro wq hSw
  (try dsimp only at hSw)
  have hq := hSw.cell_some C1.out (fun h => h)
  go_simp <;> with_reducible rfl
 try simp only [Act.put,sA,sB,sC]
 refine tL 47 (some 83) (v := (.int .u64 2)) rfl ?yk47 (Fr.refl _ _) ?rk47
 case yk47 =>
  intro wq hSw
  exact step_addu15 (a := 0) (b := 2) (x := .tmp 82) (y := .const (.int .u64 2)) rfl rfl rfl
 try simp only [Act.put,sA,sB,sC]
 refine tL 48 (some 84) (v := (.agg (r3c (3, 4, 2)).toArray)) rfl ?yk48 (Fr.refl _ _) ?rk48
 case yk48 =>
  intro wq hSw
  exact step_refb15 (a := .const (.int .u8 3)) (b := .const (.int .i64 4)) (c := .tmp 83) rfl rfl rfl rfl
 try simp only [Act.put,sA,sB,sC]
 refine tL 49 (some 85) (v := (.bool true)) rfl ?yk49 (Fr.refl _ _) ?rk49
 case yk49 =>
  intro wq hSw
  exact step_eqr15 (r := (3, 4, 2)) (x := .tmp 80) (y := .tmp 84) rfl rfl rfl
 try simp only [Act.put,sA,sB,sC]
 refine tA 50 (some 86) rfl (Fr.refl _ _) ?_
 refine tA 51 (some 87) rfl (Fr.refl _ _) ?_
 refine rW 52 (some 88) rfl fun K hK => ?_
 go_simp
 have hb : Below w7.heap.size w7 (w7.alloc (.cells #[.int .i64 7] 3)) := (Below.refl _ _).alloc (Nat.le_refl _) _
 have hsl := Sl.made w7 #[.int .i64 7] 3 1 1 rfl (by decide)
 obtain ⟨w8, hw8⟩ : ∃ x, x = w7.alloc (.cells #[.int .i64 7] 3) := ⟨_, rfl⟩
 rw [← hw8] at hb hsl ⊢
 clear hw8
 have hfr : Fr (fun _ => False) w7 w8 := Fr.of_below hb
 have S7 := qH hsl
 have BZ := qH (BZ.out.trans (hb.mono BZ.out.size))
 clear hb hsl
 refine hK.out _ _ hfr (fun hHeld => ?_)
 clear hK K hHeld
 try simp only [Act.put,sA,sB,sC]
 refine wpAnyH_re (S' := fun w' => Fr (fun _ => False) w8 w') (fun w' h => hfr.trans h) ?_
 clear hfr
 refine tL 53 (some 89) (v := (.agg #[.slice (some ⟨w7.heap.size, 0, none⟩) 1 1, .int .u64 300, .int .i64 5])) rfl ?yk53 (Fr.refl _ _) ?rk53
 case yk53 =>
  intro wq hSw
  exact step_blb15 (a := .const (.int .i64 5)) (b := .const (.int .u64 300)) (c := .tmp 88) rfl rfl rfl rfl
 try simp only [Act.put,sA,sB,sC]
 refine rW 54 (some 90) rfl fun K hK => ?_
 go_simp
 refine (putBytes15 (some ⟨w7.heap.size, 0, none⟩) 1 1 5 300 [7] (by decide) rfl (by decide) (by decide) (fun x hx => by rw [List.mem_singleton.1 hx]; decide) w8 S7.out).mono ?_; rintro e w9 ⟨A9, n9, c9, rfl, hs9, hb9⟩
 rw [show blobB 5 300 [7] = [5, 172, 2, 1, 7] from by decide +kernel] at hs9
 have hfr : Fr (fun _ => False) w8 w9 := Fr.of_below hb9
 have S9 := qH hs9
 have BZ := qH (BZ.out.trans (hb9.mono BZ.out.size))
 clear hs9 hb9
 go_wp2_with fail
 refine hK.out _ _ hfr (fun hHeld => ?_)
 clear hK K hHeld
 try simp only [Act.put,sA,sB,sC]
 refine wpAnyH_re (S' := fun w' => Fr (fun _ => False) w9 w') (fun w' h => hfr.trans h) ?_
 clear hfr
 refine tL 55 (some 91) (v := ?vk55) rfl ?yk55 (Fr.refl _ _) ?rk55
 case yk55 =>
  intro wq hSw
  (try dsimp only at hSw)
  have hq : (convert 49 9 (.slice A9 n9 c9)).run Tryz.prog wq = .ok (.string { data := #[5, 172, 2, 1, 7] }) wq := run_string_of (P := Tryz.prog) 49 5 9 Tryz.underlying49 Tryz.underlying5 Tryz.underlying9 (S9.out.fr hSw (fun _ _ _ _ h => h))
  go_simp <;> with_reducible rfl
 try simp only [Act.put,sA,sB,sC]
 refine tA 56 (some 92) rfl (Fr.refl _ _) ?_
 refine tA 57 (some 93) rfl (Fr.refl _ _) ?_
 refine tA 58 (some 0) rfl (Fr.refl _ _) ?_
 try simp only [Act.put, List.setIfInBounds_toArray, List.set_cons_zero]
 refine tD ?_
 go_wp2_with fail
 go_ret
 exact ⟨rfl, BZ.out⟩
end
end Go.Proofs.YthmneinejfbheaaGreatDoor
