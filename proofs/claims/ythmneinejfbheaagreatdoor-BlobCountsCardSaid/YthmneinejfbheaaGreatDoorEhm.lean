/-
  The statement's function BlobCounts returns true, whatever its arguments. Conditions: drives as 'DrvK' says, values as 'StrV' says; both tables read as the row lists them. (Written by gen_ehm.py.)
-/
import Derived.Test.YthmneinejfbheaaGreatDoorEhk
import Derived.Test.YthmneinejfbheaaGreatDoorEhq
set_option linter.unusedVariables false
set_option maxRecDepth 20000
set_option maxHeartbeats 3200000
namespace Go.Proofs.YthmneinejfbheaaGreatDoor
open Go.RowKit Go.Proofs
theorem step_eqb15 {ρ : Operand → Value} {o : Oper} {x y : Operand} {w : World} {a : Bool} {u : TypeId} (ho : o.op = .binOp .eql 4 x y u) (hx : ρ x = .bool a) (hy : ρ y = .bool a) : (execOp ρ o).run Tryz.prog w = .ok (.value (.bool true)) w := by
 have h : (binOp .eql 4 (.bool a) (.bool a)).run Tryz.prog w = .ok (.bool true) w := by cases a <;> kernel_rfl
 unfold execOp
 simp [ho, hx, hy, h, go_sem]
section
variable {Rep : World → (Nat → Prop) → Nat → Dv → Prop} {Good : Nat → Nat → (Nat → Bool) → Prop}
theorem blobCounts_any (DK : DrvK Rep) (SV : StrV Rep Good) (hGd : ∀ k n, Good k n (fun _ => true)) (AV : Option Addr) (q cV : Nat) (zs : List Int) (g z k size : Int) (w : World) (h : Sl w 1 AV q cV (icells zs)) (hl : zs.length = q) (bk : -9223372036854775808 ≤ k ∧ k < 9223372036854775808) (bs : -9223372036854775808 ≤ size ∧ size < 9223372036854775808) (bz : -9223372036854775808 ≤ z ∧ z < 9223372036854775808) (hN : Nt w) (hT : Tz w) :
  Calls Tryz.prog 3 #[.int .i64 k, .int .i64 size, .agg #[.slice AV q cV, .int .u64 g, .int .i64 z]] w (SaysTrue w) := by
 obtain ⟨bk1, bk2⟩ := bk
 obtain ⟨bs1, bs2⟩ := bs
 obtain ⟨bz1, bz2⟩ := bz
 have hk := fun W (hb : Below w.heap.size w W) => keeps15_any DK SV (hGd 1 (1 + 1)) W (hN.keep hb) (hT.keep hb)
 have HK := qH hk
 have HS := qH h
 have hma := fun W => rmay_any k 1 ⟨bk1, bk2⟩ ⟨by decide, by decide⟩ W
 have hcn := fun W T (hf : Fld W (T + 1) T) => cnew_own (T + 1) T k 1 ⟨bk1, bk2⟩ ⟨by decide, by decide⟩ W hf
 have HL := qH hl
 have hbl := qH (bl_below w AV q cV g z)
 have Za := Bl3.new (w := w) (A := AV) (n := q) (c := cV) (g := g) (z := z)
 have hq63 := h.lim
 unfold maxLen at hq63
 clear hk hN hT h hl
 by_cases hm : 1 ≤ k ∧ (1 : Int) ≤ 1 ∧ k + 1 ≤ 255
 case neg =>
  rw [mayB_f hm] at hma
  go_enter Tryz.func3, Tryz.ntmps3
  go_wp2_with fail
  obtain ⟨wa, hwa⟩ : ∃ x, x = w.alloc (.cells #[.slice AV q cV, .int .u64 g, .int .i64 z] 25) := ⟨_, rfl⟩
  have Hbl := qH (show Below w.heap.size w wa from hwa ▸ hbl.out)
  have Zb : Bl3 wa w.heap.size AV q cV g z := hwa ▸ Za
  rw [← hwa]
  clear hwa Za hbl
  obtain ⟨B0, hB0⟩ : ∃ B, B = w.heap.size := ⟨_, rfl⟩
  rw [← hB0] at Zb ⊢
  have hlt := block_lt Zb
  refine (new_any wa).mono ?_; rintro e wb ⟨rfl, hf, hb⟩
  have Bb := qH (Hbl.out.trans (hb.mono Hbl.out.size))
  have Zb2 := qH (Zb.later hb)
  have Fb := qH hf
  obtain ⟨T, hT⟩ : ∃ T, T = wa.heap.size := ⟨_, rfl⟩
  rw [← hT] at Fb ⊢
  have HTB := qH (show w.heap.size ≤ T ∧ B0 < T from by have := Hbl.out.size; omega)
  clear hf hb hB0 hlt Zb hT
  go_wp2_with fail
  refine (hcn wb T Fb.out).mono ?_; clear hcn; rintro e wc ⟨⟨hmb, rfl⟩ | ⟨Kn, M, C, rfl, hM1, rfl, hc, -⟩, -, hf⟩
  all_goals
   have BC := qH (Bb.out.trans (hf.below Bb.out.size (fun b hb => by have hb : b = T := hb; have := HTB.out; omega)))
   have Z0 := qH (show Bl3 wc B0 AV q cV g z from hf.row_some Zb2.out (fun hb => by have hb : B0 = T := hb; have := HTB.out; omega))
   clear hf Bb Zb2
  ·clear Fb Hbl Z0
   go_wp2_with fail
   refine (hma wc).mono ?_; clear hma; rintro e w4 ⟨rfl, hw4⟩
   obtain rfl : wc = w4 := hw4.symm
   go_wp2_with fail
   refine (HK.out wc BC.out).mono ?_; rintro e w5 ⟨rfl, hb⟩
   have HB := qH (BC.out.trans (hb.mono BC.out.size))
   clear hb
   go_wp2_with fail
   go_ret
   exact ⟨rfl, HB.out⟩
  ·exfalso
   exact hm ⟨by have := hc.k1; omega, by decide, by have := hc.n255; omega⟩
 rw [mayB_t hm] at hma
 go_enter Tryz.func3, Tryz.ntmps3
 go_wp2_with fail
 obtain ⟨wa, hwa⟩ : ∃ x, x = w.alloc (.cells #[.slice AV q cV, .int .u64 g, .int .i64 z] 25) := ⟨_, rfl⟩
 have Hbl := qH (show Below w.heap.size w wa from hwa ▸ hbl.out)
 have Zb : Bl3 wa w.heap.size AV q cV g z := hwa ▸ Za
 rw [← hwa]
 clear hwa Za hbl
 obtain ⟨B0, hB0⟩ : ∃ B, B = w.heap.size := ⟨_, rfl⟩
 rw [← hB0] at Zb ⊢
 have hlt := block_lt Zb
 refine (new_any wa).mono ?_; rintro e wb ⟨rfl, hf, hb⟩
 have Bb := qH (Hbl.out.trans (hb.mono Hbl.out.size))
 have Zb2 := qH (Zb.later hb)
 have Fb := qH hf
 obtain ⟨T, hT⟩ : ∃ T, T = wa.heap.size := ⟨_, rfl⟩
 rw [← hT] at Fb ⊢
 have HTB := qH (show w.heap.size ≤ T ∧ B0 < T from by have := Hbl.out.size; omega)
 clear hf hb hB0 hlt Zb hT
 go_wp2_with fail
 refine (hcn wb T Fb.out).mono ?_; clear hcn; rintro e wc ⟨⟨hmb, rfl⟩ | ⟨Kn, M, C, rfl, hM1, rfl, hc, -⟩, -, hf⟩
 all_goals
  have BC := qH (Bb.out.trans (hf.below Bb.out.size (fun b hb => by have hb : b = T := hb; have := HTB.out; omega)))
  have Z0 := qH (show Bl3 wc B0 AV q cV g z from hf.row_some Zb2.out (fun hb => by have hb : B0 = T := hb; have := HTB.out; omega))
  clear hf Bb Zb2
 ·exfalso
  rw [mayB_t hm] at hmb
  cases hmb
 have hK1 := hm.1
 have hK2 := hm.2.2
 obtain rfl : (1 : Nat) = M := by omega
 have CC := qH hc
 have c0 := Z0.out.c0
 clear hm hc hM1 Fb bk1 bk2
 by_cases c2 : 1000000 < size
 case pos =>
  go_wp2_with fail
  refine (hma wc).mono ?_; clear hma; rintro e w4 ⟨rfl, hw4⟩
  obtain rfl : wc = w4 := hw4.symm
  go_wp2_with fail
  refine (HK.out wc BC.out).mono ?_; rintro e w5 ⟨rfl, hb⟩
  have HB := qH (BC.out.trans (hb.mono BC.out.size))
  clear hb
  go_wp2_with fail
  go_ret
  exact ⟨rfl, HB.out⟩
 by_cases c3 : (100 : Int) < (q : Int)
 case pos =>
  go_wp2_with fail
  refine (hma wc).mono ?_; clear hma; rintro e w4 ⟨rfl, hw4⟩
  obtain rfl : wc = w4 := hw4.symm
  go_wp2_with fail
  refine (HK.out wc BC.out).mono ?_; rintro e w5 ⟨rfl, hb⟩
  have HB := qH (BC.out.trans (hb.mono BC.out.size))
  clear hb
  go_wp2_with fail
  go_ret
  exact ⟨rfl, HB.out⟩
 go_wp2_with fail
 refine (hma wc).mono ?_; clear hma; rintro e w4 ⟨rfl, hw4⟩
 obtain rfl : wc = w4 := hw4.symm
 go_wp2_with fail
 clear c0
 have SVc := qH (HS.out.below BC.out (Nat.le_refl _))
 refine wp_region_held_drew (S := fun w' => Fr (fun _ => False) wc.drew w') (by kernel_rfl) (Fr.refl _ _) (fun hHeld => ?_)
 clear hHeld
 refine tL 0 (some 28) (v := (.agg #[.slice AV q cV, .int .u64 g, .int .i64 z])) rfl ?ym0 (Fr.refl _ _) ?rm0
 case ym0 =>
  intro wq hSw
  exact step_bl3 (x := .tmp 5) rfl rfl (hSw.row_some Z0.out (fun h => h))
 try simp only [Act.put,sA,sB,sC]
 refine tL 2 (some 30) (v := (.agg #[.slice AV q cV, .int .u64 g, .int .i64 z])) rfl ?ym2 (Fr.refl _ _) ?rm2
 case ym2 =>
  intro wq hSw
  exact step_bl3 (x := .tmp 5) rfl rfl (hSw.row_some Z0.out (fun h => h))
 try simp only [Act.put,sA,sB,sC]
 refine rW 1 (some 29) rfl fun K hK => ?_
 go_simp
 refine (refs15 AV q cV zs g z wc.drew SVc.out.drew HL.out (by omega)).mono ?_; rintro e w5 ⟨rb, rfl, hqr, hb, -⟩
 have hfr : Fr (fun _ => False) wc.drew w5 := Fr.of_below hb
 have hb' := (Below.drew (Below.refl wc.heap.size wc)).trans hb
 have B5 := qH (BC.out.trans (hb'.mono BC.out.size))
 have C5 := qH (CC.out.later hb')
 have Z5 := qH (Z0.out.later hb')
 have S5 := qH (SVc.out.below hb' (Nat.le_refl _))
 have Q1 := qH hqr
 clear hb hb' hqr CC Z0 SVc
 go_wp2_with fail
 refine hK.out _ _ hfr (fun hHeld => ?_)
 clear hK K hHeld
 try simp only [Act.put,sA,sB,sC]
 refine wpAnyH_re (S' := fun w' => Fr (fun _ => False) w5 w') (fun w' h => hfr.trans h) ?_
 clear hfr
 refine rW 3 (some 31) rfl fun K hK => ?_
 go_simp
 refine (rrefs15 AV q cV zs g z w5 S5.out HL.out (by omega)).mono ?_; rintro e w6 ⟨A6, c6, rfl, hqr, hb⟩
 have hfr : Fr (fun _ => False) w5 w6 := Fr.of_below hb
 have B6 := qH (B5.out.trans (hb.mono B5.out.size))
 have C6 := qH (C5.out.later hb)
 have Z6 := qH (Z5.out.later hb)
 have S6 := qH (S5.out.below hb (Nat.le_refl _))
 have Q1 := qH (Q1.out.later hb)
 have Q2 := qH hqr
 clear hb hqr B5 C5 Z5 S5
 go_wp2_with fail
 refine hK.out _ _ hfr (fun hHeld => ?_)
 clear hK K hHeld
 try simp only [Act.put,sA,sB,sC]
 refine wpAnyH_re (S' := fun w' => Fr (fun _ => False) w6 w') (fun w' h => hfr.trans h) ?_
 clear hfr
 refine tA 4 (some 8) rfl (Fr.refl _ _) ?_
 refine tA 5 (some 9) rfl (Fr.refl _ _) ?_
 refine tD ?_
 go_wp2_with fail
 go_loopw [10] (fun iv wr => ∃ i : Nat, i ≤ q ∧ iv = .int .i64 (i : Int) ∧ Below w6.heap.size w6 wr) (fun iv _ => q - (intOf iv).toNat)
 case atStart => exact ⟨0, by omega, rfl, Below.refl _ _⟩
 case round =>
  obtain ⟨i, hi, rfl, hbr⟩ := hrel
  have BR := qH hbr
  clear hbr
  by_cases hlt : i < q
  ·have hii : (i : Int) < (q : Int) := by omega
   have i1 : (0 : Int) ≤ (i : Int) := by omega
   have hat := refsL_at (zs := zs) (g := g) (i := i) (by rw [HL.out]; exact hlt)
   obtain ⟨r, hr⟩ : ∃ r : Int × Int × Int, r = (3, zs.getD i 0, IntKind.u64.wrap (g + (i : Int))) := ⟨_, rfl⟩
   rw [← hr] at hat
   have QA := qH (((Q1.out.later BR.out).refAt hat))
   obtain ⟨b', hA', hR'⟩ : ∃ b', A6 = some ⟨b', 0, none⟩ ∧ Rw w6 b' 35 3 q c6 ((refsL zs g).flatMap r3c) := Q2.out.elim (fun hh => by have := hh.1; omega) id
   have QB := qH (((hR'.later BR.out).refAt hat))
   subst hA'
   obtain ⟨wk, hwk⟩ : ∃ wk, wk = wr.drew := ⟨_, rfl⟩
   have QA := qH (show wr.drew.rangeAt rb (i * 3) (r3c r) from QA.out)
   have QB := qH (show wr.drew.rangeAt b' (i * 3) (r3c r) from QB.out)
   clear hwk hat hr hR'
   go_wp2_with fail
   refine wp_region_held_drew (S := fun w' => Fr (fun _ => False) wr.drew w') (by kernel_rfl) (Fr.refl _ _) (fun hHeld => ?_)
   clear hHeld
   refine tA 0 (some 43) rfl (Fr.refl _ _) ?_
   refine tA 1 (some 44) rfl (Fr.refl _ _) ?_
   refine tA 2 (some 45) rfl (Fr.refl _ _) ?_
   refine tL 3 (some 46) (v := (.agg (r3c r).toArray)) rfl ?yn3 (Fr.refl _ _) ?rn3
   case yn3 =>
    intro wq hSw
    exact step_ref15 (x := .tmp 45) rfl rfl (range_fr15 QA.out hSw (fun h => h))
   try simp only [Act.put,sA,sB,sC]
   refine tA 4 (some 47) rfl (Fr.refl _ _) ?_
   refine tA 5 (some 48) rfl (Fr.refl _ _) ?_
   refine tA 6 (some 49) rfl (Fr.refl _ _) ?_
   refine tL 7 (some 50) (v := (.agg (r3c r).toArray)) rfl ?yn7 (Fr.refl _ _) ?rn7
   case yn7 =>
    intro wq hSw
    exact step_ref15 (x := .tmp 49) rfl rfl (range_fr15 QB.out hSw (fun h => h))
   try simp only [Act.put,sA,sB,sC]
   refine tL 8 (some 51) (v := (.bool false)) rfl ?yn8 (Fr.refl _ _) ?rn8
   case yn8 =>
    intro wq hSw
    exact step_ner15 (r := r) (x := .tmp 46) (y := .tmp 50) rfl rfl rfl
   try simp only [Act.put,sA,sB,sC]
   refine tD ?_
   go_wp2_with fail
   go_roundw
   case rel => exact ⟨i + 1, by omega, by go_num, BR.out.drew⟩
   case measure => simp [intOf]; omega
  ·obtain rfl : i = q := by omega
   have BW := qH (B6.out.trans (BR.out.mono B6.out.size))
   have CW := qH (C6.out.later BR.out)
   have ZW := qH (Z6.out.later BR.out)
   have SW := qH (S6.out.below BR.out (Nat.le_refl _))
   obtain ⟨wk, hwk⟩ : ∃ wk, wk = wr := ⟨_, rfl⟩
   rw [← hwk] at BW CW ZW SW ⊢
   clear hwk BR B6 C6 Z6 S6 Q1 Q2
   go_wp2_with fail
   have hdr : Below wk.heap.size wk wk.drew := Below.drew (Below.refl _ _)
   have BW := qH (BW.out.trans (hdr.mono BW.out.size))
   have CW := qH (CW.out.later hdr)
   have ZW := qH (ZW.out.later hdr)
   have SW := qH (SW.out.below hdr (Nat.le_refl _))
   have HR0 := qH (show Kn + 1 ≤ 255 ∧ 1 ≤ Kn from by omega)
   have HCZ := qH (show countN (44 * Kn) size.toNat = countZ (44 * Kn) size from by rw [countZ, if_neg (by omega)])
   clear hdr
   refine wp_region_held_drew (S := fun w' => Fr (fun _ => False) wk.drew w') (by kernel_rfl) (Fr.refl _ _) (fun hHeld => ?_)
   clear hHeld
   refine tA 0 (some 52) rfl (Fr.refl _ _) ?_
   refine tA 1 (some 53) rfl (Fr.refl _ _) ?_
   refine tA 3 (some 55) rfl (Fr.refl _ _) ?_
   refine tA 4 (some 56) rfl (Fr.refl _ _) ?_
   refine rW 2 (some 54) rfl fun K hK => ?_
   go_simp
   have hh := count15 (Rm.of CW.out) size bs1 bs2
   refine hh.mono ?_; clear hh; rintro e v9 ⟨rfl, hw⟩
   obtain rfl : wk.drew = v9 := hw.symm
   have hfr : Fr (fun _ => False) wk.drew wk.drew := Fr.refl _ _
   go_wp2_with fail
   refine hK.out _ _ hfr (fun hHeld => ?_)
   clear hK K hHeld
   try simp only [Act.put,sA,sB,sC]
   refine wpAnyH_re (S' := fun w' => Fr (fun _ => False) wk.drew w') (fun w' h => hfr.trans h) ?_
   clear hfr
   refine rW 5 (some 57) rfl fun K hK => ?_
   go_simp
   have hh := rcount15 Kn HR0.out.2 (by have := HR0.out; omega) size bs1 bs2 wk.drew
   rw [HCZ.out] at hh
   refine hh.mono ?_; clear hh; rintro e v9 ⟨rfl, hw⟩
   obtain rfl : wk.drew = v9 := hw.symm
   have hfr : Fr (fun _ => False) wk.drew wk.drew := Fr.refl _ _
   go_wp2_with fail
   refine hK.out _ _ hfr (fun hHeld => ?_)
   clear hK K hHeld
   try simp only [Act.put,sA,sB,sC]
   refine wpAnyH_re (S' := fun w' => Fr (fun _ => False) wk.drew w') (fun w' h => hfr.trans h) ?_
   clear hfr
   refine tL 6 (some 58) (v := (.bool true)) rfl ?yo6 (Fr.refl _ _) ?ro6
   case yo6 =>
    intro wq hSw
    exact step_eq15 (x := .tmp 54) (y := .tmp 57) rfl rfl rfl (decide_eq_true rfl)
   try simp only [Act.put,sA,sB,sC]
   refine tA 7 (some 59) rfl (Fr.refl _ _) ?_
   refine tA 8 (some 60) rfl (Fr.refl _ _) ?_
   refine tL 9 (some 61) (v := (.agg #[.slice AV i cV, .int .u64 g, .int .i64 z])) rfl ?yo9 (Fr.refl _ _) ?ro9
   case yo9 =>
    intro wq hSw
    exact step_bl3 (x := .tmp 5) rfl rfl (hSw.row_some ZW.out (fun h => h))
   try simp only [Act.put,sA,sB,sC]
   refine tA 11 (some 63) rfl (Fr.refl _ _) ?_
   refine tL 12 (some 64) (v := (.agg #[.slice AV i cV, .int .u64 g, .int .i64 z])) rfl ?yo12 (Fr.refl _ _) ?ro12
   case yo12 =>
    intro wq hSw
    exact step_bl3 (x := .tmp 5) rfl rfl (hSw.row_some ZW.out (fun h => h))
   try simp only [Act.put,sA,sB,sC]
   refine rW 10 (some 62) rfl fun K hK => ?_
   go_simp
   have hh := right15 AV i cV zs g z wk.drew (Rm.of CW.out) SW.out HL.out bz1 bz2
   refine hh.mono ?_; clear hh; rintro e wl ⟨rfl, hb⟩
   have hfr : Fr (fun _ => False) wk.drew wl := Fr.of_below hb
   have BW := qH (BW.out.trans (hb.mono BW.out.size))
   have CW := qH (CW.out.later hb)
   have ZW := qH (ZW.out.later hb)
   have SW := qH (SW.out.below hb (Nat.le_refl _))
   clear hb
   go_wp2_with fail
   refine hK.out _ _ hfr (fun hHeld => ?_)
   clear hK K hHeld
   try simp only [Act.put,sA,sB,sC]
   refine wpAnyH_re (S' := fun w' => Fr (fun _ => False) wl w') (fun w' h => hfr.trans h) ?_
   clear hfr
   refine rW 13 (some 65) rfl fun K hK => ?_
   go_simp
   have hh := rright15 Kn HR0.out.2 (by have := HR0.out; omega) AV i cV zs g z wl SW.out HL.out bz1 bz2
   refine hh.mono ?_; clear hh; rintro e wm ⟨rfl, hb⟩
   have hfr : Fr (fun _ => False) wl wm := Fr.of_below hb
   have BW := qH (BW.out.trans (hb.mono BW.out.size))
   have CW := qH (CW.out.later hb)
   have ZW := qH (ZW.out.later hb)
   have SW := qH (SW.out.below hb (Nat.le_refl _))
   clear hb
   go_wp2_with fail
   refine hK.out _ _ hfr (fun hHeld => ?_)
   clear hK K hHeld
   try simp only [Act.put,sA,sB,sC]
   refine wpAnyH_re (S' := fun w' => Fr (fun _ => False) wm w') (fun w' h => hfr.trans h) ?_
   clear hfr
   refine tL 14 (some 66) (v := (.bool true)) rfl ?yo14 (Fr.refl _ _) ?ro14
   case yo14 =>
    intro wq hSw
    exact step_eqb15 (x := .tmp 62) (y := .tmp 65) rfl rfl rfl
   try simp only [Act.put,sA,sB,sC]
   refine tA 15 (some 67) rfl (Fr.refl _ _) ?_
   refine tA 16 (some 68) rfl (Fr.refl _ _) ?_
   refine tA 17 (some 69) rfl (Fr.refl _ _) ?_
   refine rW 18 (some 70) rfl fun K hK => ?_
   go_simp
   have hh := count15 (w := wm) (Rm.nil) size bs1 bs2
   rw [show countZ 0 size = 0 from rfl] at hh
   refine hh.mono ?_; clear hh; rintro e v9 ⟨rfl, hw⟩
   obtain rfl : wm = v9 := hw.symm
   have hfr : Fr (fun _ => False) wm wm := Fr.refl _ _
   go_wp2_with fail
   refine hK.out _ _ hfr (fun hHeld => ?_)
   clear hK K hHeld
   try simp only [Act.put,sA,sB,sC]
   refine wpAnyH_re (S' := fun w' => Fr (fun _ => False) wm w') (fun w' h => hfr.trans h) ?_
   clear hfr
   refine tA 19 (some 71) rfl (Fr.refl _ _) ?_
   refine tA 20 (some 72) rfl (Fr.refl _ _) ?_
   refine tA 21 (some 73) rfl (Fr.refl _ _) ?_
   refine rW 22 (some 74) rfl fun K hK => ?_
   go_simp
   refine (HK.out wm BW.out).mono ?_; rintro e wn ⟨rfl, hb⟩
   have hfr : Fr (fun _ => False) wm wn := Fr.of_below hb
   have BW := qH (BW.out.trans (hb.mono BW.out.size))
   clear hb
   go_wp2_with fail
   refine hK.out _ _ hfr (fun hHeld => ?_)
   clear hK K hHeld
   try simp only [Act.put,sA,sB,sC]
   refine wpAnyH_re (S' := fun w' => Fr (fun _ => False) wn w') (fun w' h => hfr.trans h) ?_
   clear hfr
   refine tA 23 (some 75) rfl (Fr.refl _ _) ?_
   refine tA 24 (some 6) rfl (Fr.refl _ _) ?_
   refine tD ?_
   go_wp2_with fail
   go_ret
   exact ⟨rfl, BW.out⟩
end
end Go.Proofs.YthmneinejfbheaaGreatDoor
