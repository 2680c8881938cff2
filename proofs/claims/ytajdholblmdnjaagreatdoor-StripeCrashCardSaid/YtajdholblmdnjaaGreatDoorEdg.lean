/-
  Contracts of package stripe's Put. (Written by gen_edg.py.)
-/
import Derived.Test.YtajdholblmdnjaaGreatDoorEdf
import Derived.Test.YtajdholblmdnjaaGreatDoorEdh
import Derived.Test.YtajdholblmdnjaaGreatDoorEch
set_option linter.unusedVariables false
set_option maxRecDepth 100000
set_option maxHeartbeats 3200000
namespace Go.Proofs.YtajdholblmdnjaaGreatDoor
open Go.RowKit Go.Proofs
theorem zero_st13 (w : World) : (zeroValue 63).run Tryz.prog w = .ok (.agg #[.pointer none, .pointer none, .int .u8 0, .int .i64 0, .int .u64 0]) w := by kernel_rfl
theorem built_st13 (a c : Option Addr) (k p g : Int) : Tryz.prog.built 63 [(0, .pointer a), (1, .pointer c), (2, .agg #[.int .u8 k, .int .i64 p, .int .u64 g])] = some #[.pointer a, .pointer c, .int .u8 k, .int .i64 p, .int .u64 g] := by kernel_rfl
theorem step_buildSt13 {ρ : Operand → Value} {o : Oper} {x y z : Operand} {w : World} {a c : Option Addr} {k p g : Int} (ho : o.op = .build 63 #[(0, x), (1, y), (2, z)]) (h0 : ρ x = .pointer a) (h1 : ρ y = .pointer c) (h2 : ρ z = .agg #[.int .u8 k, .int .i64 p, .int .u64 g]) :
  (execOp ρ o).run Tryz.prog w = .ok (.value (.agg #[.pointer a, .pointer c, .int .u8 k, .int .i64 p, .int .u64 g])) w := by
 have h := run_build (P := Tryz.prog) w 63 _ _ (built_st13 a c k p g)
 unfold execOp
 simp [ho, h0, h1, h2, h, Result.andThen]
section
variable {Rep : World → (Nat → Prop) → Nat → Dv → Prop} {w : World} {S : Nat → Prop} {A C k m F T N p g : Nat} {kd : UInt8} {xs : List Dv} {b : List UInt8} {G : Nat → Bool}
theorem put_all13 {n : Nat} (hl : xs.length = n) (hx : ∀ (d : Nat) (x : Dv), xs[d]? = some x → x.Ok ∧ x.n = N) (hp : p < N) (hk : 1 ≤ k) (hr : RefOk kd p g b.length (44 * k)) :
  putN xs (rowW n p (secs13 k kd p g b) n) (p : Int) n = cntG n (liveG xs) ∧ putS xs (rowW n p (secs13 k kd p g b) n) (p : Int) n = putAll k n kd p g b xs := by
 constructor
 ·rw [putN_rows hl hx hp (fun i => .inr (secs13_len hk hr)) n (Nat.le_refl _)]
  unfold cntG
  refine List.countP_congr fun d _ => ?_
  rw [secs13_len hk hr]
  simp
 ·unfold putS putAll
  refine upTo_congr13 fun d x hd _ => ?_
  unfold putF
  rw [rowW_getD hd, secs13_len hk hr, if_pos (by decide)]
  rfl
theorem enters_making : ∀ args w, (callFunc 65 args).run Tryz.prog w = .ok (.enter 65 args) w := enters_of Tryz.func65 (by kernel_rfl) rfl
theorem stput_any (DK : DrvK Rep) (kd : UInt8) (p g : Nat) (b : List UInt8) (A2 : Option Addr) (c2 : Nat) {n R : Nat} (hn : n = k + m) (hR : R = 44 * k) (h : Ac13 Rep w S A C k m F T N xs) (hr : RefOk kd p g b.length (44 * k)) (hp : p < N) (hs : Sl w 1 A2 b.length c2 (cells b)) :
  Calls Tryz.prog 10 #[.pointer (some ⟨A, 0, none⟩), .pointer (some ⟨C, 0, none⟩), .agg #[.int .u8 (kd.toNat : Int), .int .i64 (p : Int), .int .u64 (g : Int)], .slice A2 b.length c2] w fun e w' => e = .returned (.tuple #[.int .i64 (cntG n (liveG xs) : Nat), .int .i64 0]) ∧ MutA Rep S A (putAll k n kd p g b xs) w w' := by
 have hk1 := h.c.k1
 have hq2 : n ≤ 255 := by have := h.c.n255; omega
 have hq1 : 1 ≤ n := by omega
 have hp16 : p < 65536 := hr.p
 have hR16 : R < 65536 := by rw [hR]; exact hr.R
 have hb16 : b.length ≤ R := by rw [hR]; exact hr.z
 have AC := Lib.hid h
 have HRo := Lib.hid hr
 have Hp := Lib.hid hp
 have Hn := Lib.hid hn
 have HR := Lib.hid hR
 have HK1 := Lib.hid hk1
 clear h hr hp hn hR hk1
 have Hsl := Lib.hid hs
 obtain ⟨nb, hnb⟩ : ∃ nb, nb = b.length := ⟨_, rfl⟩
 rw [← hnb] at hb16 ⊢
 have HNB := Lib.hid hnb
 clear hs hnb
 have hzv := zero_st13
 go_enter Tryz.func10, Tryz.ntmps10
 go_wp2_with (first
  | (refine at_dst11 (d := 18) ?_; refine wpList_step11 (o := ⟨some 18, _, _, _, _, _⟩) rfl _ _ (step_ref13 (x := .tmp 6) rfl rfl (heap_alloc_new w _)) ?_)
  | (refine at_dst11 (d := 19) ?_; refine wpList_step11 (o := ⟨some 19, _, _, _, _, _⟩) rfl _ _ (step_buildSt13 (x := .tmp 16) (y := .tmp 17) (z := .tmp 18) rfl rfl rfl rfl) ?_))
 have hnew : StB ((w.alloc (.cells #[.int .u8 (kd.toNat : Int), .int .i64 (p : Int), .int .u64 (g : Int)] 34)).alloc (.cells #[.pointer (some ⟨A, 0, none⟩), .pointer (some ⟨C, 0, none⟩), .int .u8 (kd.toNat : Int), .int .i64 (p : Int), .int .u64 (g : Int)] 63)) (w.heap.size + 1) A C kd p g := by
  have := heap_alloc_new (w.alloc (.cells #[.int .u8 (kd.toNat : Int), .int .i64 (p : Int), .int .u64 (g : Int)] 34)) (.cells #[.pointer (some ⟨A, 0, none⟩), .pointer (some ⟨C, 0, none⟩), .int .u8 (kd.toNat : Int), .int .i64 (p : Int), .int .u64 (g : Int)] 63)
  rw [show (w.alloc (.cells #[.int .u8 (kd.toNat : Int), .int .i64 (p : Int), .int .u64 (g : Int)] 34)).heap.size = w.heap.size + 1 from by simp] at this
  exact this
 have hb1 : Below w.heap.size w ((w.alloc (.cells #[.int .u8 (kd.toNat : Int), .int .i64 (p : Int), .int .u64 (g : Int)] 34)).alloc (.cells #[.pointer (some ⟨A, 0, none⟩), .pointer (some ⟨C, 0, none⟩), .int .u8 (kd.toNat : Int), .int .i64 (p : Int), .int .u64 (g : Int)] 63)) := ((Below.refl _ _).alloc (Nat.le_refl _) _).alloc (by simp) _
 obtain ⟨w1, hw1⟩ : ∃ x, x = ((w.alloc (.cells #[.int .u8 (kd.toNat : Int), .int .i64 (p : Int), .int .u64 (g : Int)] 34)).alloc (.cells #[.pointer (some ⟨A, 0, none⟩), .pointer (some ⟨C, 0, none⟩), .int .u8 (kd.toNat : Int), .int .i64 (p : Int), .int .u64 (g : Int)] 63)) := ⟨_, rfl⟩
 rw [← hw1] at hnew hb1 ⊢
 obtain ⟨B, hB⟩ : ∃ B, B = w.heap.size + 1 := ⟨_, rfl⟩
 rw [← hB] at hnew ⊢
 have HB := Lib.hid (show w.heap.size ≤ B by omega)
 have Hs1 := Lib.hid hnew
 have B1 := Lib.hid hb1
 clear hw1 hnew hb1 hB hzv
 refine (fault_any DK (AC.out.later DK B1.out) HRo.out.k1 HRo.out.k4 Hp.out).mono ?_; rintro e w2 ⟨rfl, hb2⟩
 have B2 := Lib.hid (B1.out.trans (hb2.mono B1.out.size))
 have Hs2 := Lib.hid (Hs1.out.later hb2)
 clear hb2
 have hle : (nb : Int) ≤ (R : Int) := by omega
 have hsp := split_any C k m F T A2 nb c2 b 44 (by decide) (by decide) w2 (AC.out.c.later B2.out) (by rw [HNB.out]; exact Hsl.out.below B2.out (Nat.le_refl _))
 go_wp2_with fail
 refine (sroom13 (AC.out.c.later B2.out) HR.out).mono ?_; rintro e w3 ⟨rfl, hw3⟩
 obtain rfl : w2 = w3 := hw3.symm
 clear hw3
 go_wp2_with fail
 refine hsp.mono ?_; clear hsp; rintro e w4 ⟨hb4, ⟨hx, rfl⟩ | ⟨_, hx, rfl⟩ | ⟨_, _, gd, rfl, hgr⟩⟩
 ·exact absurd ⟨by decide, by decide⟩ hx
 ·exfalso
  have := HR.out
  omega
 have hgr : Gr w4 (some ⟨gd, 0, none⟩) k k (cutL b 44 k) := hgr
 have B4 := Lib.hid (B2.out.trans (hb4.mono B2.out.size))
 have Hs4 := Lib.hid (Hs2.out.later hb4)
 have hal := all_own C k m F T (some ⟨gd, 0, none⟩) k k (cutL b 44 k) w4 (AC.out.c.later B4.out) hgr (fun r q => by rw [cut_rows b 44 k r q]; decide)
 clear hb4 hgr
 go_wp2_with fail
 refine hal.mono ?_; clear hal; rintro e w5 ⟨hb5, ⟨hx, rfl⟩ | ⟨_, Ar, cr, rfl, hgm⟩⟩
 ·exfalso
  rw [cut_even] at hx
  cases hx
 have hgr := hgm.gr
 rw [← allL_eq k m _ (cutL_length _ _ _) cut_level, ← Hn.out] at hgr
 rw [← Hn.out]
 have GR := Lib.hid hgr
 have B5 := Lib.hid (B4.out.trans (hb5.mono B4.out.size))
 have Hs5 := Lib.hid (Hs4.out.later hb5)
 clear hb5 hgm hgr
 have hnS : ¬ S B := fun q => by have := AC.out.a.old q; have := HB.out; omega
 have HNS := Lib.hid hnS
 have hwz : IntKind.u16.wrap (nb : Int) = (nb : Int) := by rw [IntKind.wrap_u16]; omega
 clear hnS hle
 go_wp2_with fail
 refine wp_region_held_drew (S := fun w' => Fr (S) w5.drew w') (by kernel_rfl) (Fr.refl _ _) (fun hHeld => ?_)
 clear hHeld
 refine tL (i := 0) (d := some 42) (v := (.agg #[.pointer (some ⟨A, 0, none⟩), .pointer (some ⟨C, 0, none⟩), .int .u8 (kd.toNat : Int), .int .i64 (p : Int), .int .u64 (g : Int)])) rfl ?yp0 (Fr.refl _ _) ?rp0
 case yp0 =>
  intro wq hSw
  exact step_st13 (x := .tmp 10) rfl rfl (StB.fr (show StB w5.drew B A C kd p g from Hs5.out) hSw HNS.out)
 try simp only [Act.put,sA,sB,sC]
 refine tL (i := 1) (d := some 43) (v := (.agg #[.pointer (some ⟨A, 0, none⟩), .pointer (some ⟨C, 0, none⟩), .int .u8 (kd.toNat : Int), .int .i64 (p : Int), .int .u64 (g : Int)])) rfl ?yp1 (Fr.refl _ _) ?rp1
 case yp1 =>
  intro wq hSw
  exact step_st13 (x := .tmp 10) rfl rfl (StB.fr (show StB w5.drew B A C kd p g from Hs5.out) hSw HNS.out)
 try simp only [Act.put,sA,sB,sC]
 refine tL (i := 2) (d := some 44) (v := ?vp2) rfl ?yp2 (Fr.refl _ _) ?rp2
 case yp2 =>
  intro wq hSw
  (try dsimp only at hSw)
  go_simp <;> with_reducible rfl
 try simp only [Act.put,sA,sB,sC]
 refine tL (i := 3) (d := some 45) (v := ?vp3) rfl ?yp3 (Fr.refl _ _) ?rp3
 case yp3 =>
  intro wq hSw
  (try dsimp only at hSw)
  go_simp <;> with_reducible rfl
 try simp only [Act.put,sA,sB,sC]
 refine tL (i := 4) (d := some 46) (v := ?vp4) rfl ?yp4 (Fr.refl _ _) ?rp4
 case yp4 =>
  intro wq hSw
  (try dsimp only at hSw)
  go_simp <;> with_reducible rfl
 try simp only [Act.put,sA,sB,sC]
 refine tL (i := 5) (d := some 47) (v := ?vp5) rfl ?yp5 (Fr.refl _ _) ?rp5
 case yp5 =>
  intro wq hSw
  (try dsimp only at hSw)
  go_simp <;> with_reducible rfl
 try simp only [Act.put,sA,sB,sC]
 refine rW (i := 6) (d := some 48) rfl fun K hK => ?_
 go_simp
 refine (stmaker_any A C kd p g nb w5.drew (GR.out.later (Below.drew (Below.refl _ _)))).mono ?_; rintro e w6 ⟨b1, b2, b3, rfl, hmk, hb6⟩
 have hfr : Fr S w5.drew w6 := Fr.of_below hb6
 have MK := Lib.hid hmk
 have B6 := Lib.hid (show Below w.heap.size w w6 from B5.out.trans (((Below.drew (Below.refl w5.heap.size w5)).trans hb6).mono B5.out.size))
 clear hmk hb6
 go_wp2_with fail
 refine hK.out _ _ hfr (fun hHeld => ?_)
 clear hK K hHeld
 try simp only [Act.put,sA,sB,sC]
 refine wpAnyH_re (S' := fun w' => Fr (S) w6 w') (fun w' h => hfr.trans h) ?_
 clear hfr
 refine rW (i := 7) (d := some 49) rfl fun K hK => ?_
 go_simp
 have hC := stwrite_any (p := p) (kd := kd) (g := g) DK (AC.out.later DK B6.out) Hn.out hp16 65 enters_making #[.pointer (some ⟨b1, 0, none⟩), .pointer (some ⟨b3, 0, none⟩), .pointer (some ⟨b2, 0, none⟩)] (secs13 k kd p g b) (fun u i hi hu => by
  have hh := making_any (MK.out.later hu) (AC.out.nt.keep B6.out |>.keep hu) hi hq2 (allL_row hi) (row13_len HK1.out) HRo.out.k1 HRo.out.k4 hp16 HRo.out.g (show nb < 65536 by omega)
  refine hh.mono ?_
  rintro e u' ⟨A', rfl, h1, h2, h3⟩
  have hl : (secs13 k kd p g b i).length = 64 := secs13_len HK1.out HRo.out
  rw [HNB.out] at h1
  exact ⟨A', 64, by rw [hl], by rw [hl]; exact h1, h2, fun b o _ e => h3 b o e⟩)
 refine hC.mono ?_; clear hC; rintro e w7 ⟨rfl, S7, ha7, hn7⟩
 have hfr : Fr S w6 w7 := hn7.1
 obtain ⟨e1, e2⟩ := put_all13 (n := n) (kd := kd) (g := g) (b := b) (AC.out.len.trans Hn.out.symm) AC.out.n Hp.out HK1.out HRo.out
 rw [e1]
 rw [e2] at ha7
 have M7 := Lib.hid (show MutA Rep S A (putAll k n kd p g b xs) w w7 from ⟨S7, ha7, hn7.below B6.out⟩)
 obtain ⟨q, hq⟩ : ∃ q, q = cntG n (liveG xs) := ⟨_, rfl⟩
 rw [← hq]
 clear ha7 hn7 e1 e2
 go_wp2_with fail
 refine hK.out _ _ hfr (fun hHeld => ?_)
 clear hK K hHeld
 try simp only [Act.put,sA,sB,sC]
 refine wpAnyH_re (S' := fun w' => Fr (S) w7 w') (fun w' h => hfr.trans h) ?_
 clear hfr
 refine tL (i := 8) (d := some 8) (v := ?vp8) rfl ?yp8 (Fr.refl _ _) ?rp8
 case yp8 =>
  intro wq hSw
  (try dsimp only at hSw)
  go_simp <;> with_reducible rfl
 try simp only [Act.put,sA,sB,sC]
 refine tL (i := 9) (d := some 9) (v := ?vp9) rfl ?yp9 (Fr.refl _ _) ?rp9
 case yp9 =>
  intro wq hSw
  (try dsimp only at hSw)
  go_simp <;> with_reducible rfl
 try simp only [Act.put,sA,sB,sC]
 refine tD ?_
 go_wp2_with fail
 go_ret2
 exact ⟨rfl, M7.out⟩
end
end Go.Proofs.YtajdholblmdnjaaGreatDoor
