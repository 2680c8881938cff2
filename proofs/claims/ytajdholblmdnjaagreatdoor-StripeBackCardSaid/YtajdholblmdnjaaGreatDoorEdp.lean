/-
  StripeBack over StrK: it returns true, whatever its arguments. (Written by gen_edp.py.)
-/
import Derived.Test.YtajdholblmdnjaaGreatDoorEdr
import Derived.Deep.RegionHeld3
set_option linter.unusedVariables false
set_option maxRecDepth 100000
set_option maxHeartbeats 6400000
namespace Go.Proofs.YtajdholblmdnjaaGreatDoor
open Go.RowKit Go.Proofs
theorem wp_appI13 {o : Oper} {a : Act} {K : Act → World → Prop} {Q : Exit → Act → World → Prop} {w : World} {A : Option Addr} {n c : Nat} {xs : List Value} (s x : Operand)
  (ho : o.op = .call { callee := .builtin .append, args := #[s, x], argTypes := #[26, 26] })
  (hv : a.eval s = .slice A n c) (h : Rn w A 3 1 n c xs) (A2 : Option Addr) (m c2 : Nat) (ys : List Nat) (hx : a.eval x = .slice A2 m c2) (hs : Sl w 1 A2 m c2 (ncells ys)) (q : Nat) (hq : q = n + m) (h20 : q ≤ 1000000)
  (hk : ∀ A' c' w', Rn w' A' 3 1 q c' (xs ++ ncells ys) → Fr (Bk A) w w' → (A' = A ∨ A' = some ⟨w.heap.size, 0, none⟩) → K (a.put o.dst (.slice A' q c')) w') : o.wp Tryz.prog a w K Q := by
 subst hq
 obtain ⟨i0, hi, hz0, hz1, hz2⟩ := info_parts info_i
 exact wp_append_rn s x _ _ ho i0 (.int .i64 0) 8 Tryz.underlying26 hi hz0 hz1 hz2 rfl (by decide) hv h _ m (ncells ys) hx (hs.src Tryz.underlying26 (by decide) (ncells_one ys)) (by unfold maxLen; omega) (by omega) hk
section
variable {Rep : World → (Nat → Prop) → Nat → Dv → Prop}
theorem Lc13.copied {w0 w w' : World} {S : Nat → Prop} {A C k m F T N : Nat} {xs : List Dv} {e : Ending} (h : Lc13 Rep w0 w S A C k m F T N xs) (hr : RetNewP Rep xs w e w') : ∃ Az Sz, e = .returned (.pointer (some ⟨Az, 0, none⟩)) ∧ Lc13 Rep w0 w' Sz Az C k m F T N xs ∧ Below w.heap.size w w' ∧ ∀ b, Sz b → w.heap.size ≤ b := by
 obtain ⟨Az, Sz, he, ha, hb, hS⟩ := hr
 have hC : C < w.heap.size := block_lt h.ac.c.row
 have hF : F < w.heap.size := World.block_lt_of_cell? w _ h.ac.c.fld.cell
 have hT : T < w.heap.size := h.ac.c.fld.fld.ltT
 have hG := h.ac.nt.lt13
 refine ⟨Az, Sz, he, ⟨⟨ha, h.ac.c.later hb, ⟨fun q => ?_, fun q => ?_, fun q => ?_⟩, h.ac.len, h.ac.n, h.ac.wl, h.ac.nt.keep hb, fun q => ?_⟩, fun b q => ?_, h.bel.trans (hb.mono h.bel.size)⟩, hb, hS⟩
 ·have := hS _ q; omega
 ·have := hS _ q; omega
 ·have := hS _ q; omega
 ·have := hS _ q; omega
 ·have := hS _ q; have := h.bel.size; omega
theorem stripeBack_any (DK : DrvK Rep) (SK : StrK Rep) (k m s : Int) (A0 : Option Addr) (c0 : Nat) (b : List UInt8) (place : Int) (gen : Nat) (A1 : Option Addr) (c1 : Nat) (gone : List Int) (off : Int) (mask : Nat) (w : World)
  (bk : -9223372036854775808 ≤ k ∧ k < 9223372036854775808) (bm : -9223372036854775808 ≤ m ∧ m < 9223372036854775808) (bs : -9223372036854775808 ≤ s ∧ s < 9223372036854775808) (bp : -9223372036854775808 ≤ place ∧ place < 9223372036854775808) (bg : gen < 18446744073709551616) (bo : -9223372036854775808 ≤ off ∧ off < 9223372036854775808) (bmk : mask < 4294967296)
  (hs0 : Sl w 1 A0 b.length c0 (cells b)) (hs1 : Sl w 1 A1 gone.length c1 (icells gone)) (hN : Nt w) :
  Calls Tryz.prog 3 #[.agg #[.int .i64 k, .int .i64 m, .int .i64 s], .slice A0 b.length c0, .int .i64 place, .int .u64 (gen : Int), .slice A1 gone.length c1, .int .i64 off, .int .u32 (mask : Int)] w (SaysTrue w) := by
 obtain ⟨nb, hnb⟩ : ∃ nb, nb = b.length := ⟨_, rfl⟩
 rw [← hnb] at hs0 ⊢
 obtain ⟨ng, hng⟩ : ∃ ng, ng = gone.length := ⟨_, rfl⟩
 rw [← hng] at hs1 ⊢
 have HNB := Lib.hid hnb
 have HS0 := Lib.hid hs0
 clear hnb hs0
 have HNG := Lib.hid hng
 have HS1 := Lib.hid hs1
 clear hng hs1
 have HN := Lib.hid hN
 clear hN
 have hsmall := fun w => small13_any k m s bk bm bs w
 have Hgeo := Lib.hid (geo_below w k m s)
 have hrow := heap_alloc_new w (.cells #[.int .i64 k, .int .i64 m, .int .i64 s] 23)
 have Hrow := Lib.hid hrow
 clear hrow
 by_cases g0 : Small13 k m s
 ·rw [decide_eq_true g0] at hsmall
  obtain ⟨K, rfl⟩ : ∃ K : Nat, k = (K : Int) := ⟨k.toNat, by have := g0.1; omega⟩
  obtain ⟨M, rfl⟩ : ∃ M : Nat, m = (M : Int) := ⟨m.toNat, by have := g0.2.1; omega⟩
  obtain ⟨N, rfl⟩ : ∃ N : Nat, s = (N : Int) := ⟨s.toNat, by have := g0.2.2.2.1; omega⟩
  have G0 := Lib.hid g0
  clear g0 bk bm bs
  go_enter Tryz.func3, Tryz.ntmps3
  go_wp2_with fail
  refine (hsmall _).mono ?_; clear hsmall; rintro e w1 ⟨rfl, hb1⟩
  have hr1 : Geo13 w1 w.heap.size (K : Int) (M : Int) (N : Int) := (hb1.block _ (block_lt Hrow.out)).trans Hrow.out
  have a0 := hr1.c0
  have a2 := hr1.c2
  have B1 := Lib.hid (Hgeo.out.trans (hb1.mono Hgeo.out.size))
  have R1 := Lib.hid hr1
  clear hb1 hr1
  by_cases q1 : 0 ≤ place
  ·by_cases q2 : place < (N : Int)
   ·by_cases q3 : (nb : Int) ≤ 44 * (K : Int)
    ·by_cases q4 : (ng : Int) ≤ 30
     ·have hw : wrap64 (44 * (K : Int)) = 44 * (K : Int) := by have := G0.out.2.2.1; have := G0.out.1; unfold wrap64; omega
      go_wp2_with (first
       | (refine at_dst11 (d := 55) ?_; refine wpList_step11 (o := ⟨some 55, _, _, _, _, _⟩) rfl _ w1 (step_geo13 (x := .tmp 7) rfl rfl R1.out) ?_))
      obtain ⟨p, rfl⟩ : ∃ p : Nat, place = (p : Int) := ⟨place.toNat, by omega⟩
      refine (made13_any DK K M N (by have := G0.out.1; omega) (by have := G0.out.2.1; omega) (by have := G0.out.2.2.1; omega) (by have := G0.out.2.2.2.1; omega) (by have := G0.out.2.2.2.2; omega) w1).mono ?_; intro e w2 hm
      obtain ⟨A, S2, C, F, T, rfl, hL, hS2, hbel⟩ := Lc13.made hm B1.out (HN.out.keep B1.out)
      have hr2 : Geo13 w2 w.heap.size (K : Int) (M : Int) (N : Int) := (hbel.block _ (block_lt R1.out)).trans R1.out
      have hz1 := block_lt R1.out
      obtain ⟨n, hn⟩ : ∃ n, n = K + M := ⟨_, rfl⟩
      have Hn := Lib.hid hn
      have HS2 := Lib.hid hS2
      have L2 := Lib.hid hL
      have hnZ : ¬ S2 w.heap.size := fun q => by have := HS2.out _ q; omega
      have HnZ := Lib.hid hnZ
      have RG := Lib.hid hr2
      clear hm a0 a2 hL hS2 hbel hr2 hz1 hnZ hn hw
      have HK := Lib.hid (show 1 ≤ K ∧ 1 ≤ M ∧ K + M ≤ 10 from ⟨by have := G0.out.1; omega, by have := G0.out.2.1; omega, by have := G0.out.2.2.1; omega⟩)
      have HOF := Lib.hid (show -9223372036854775808 ≤ off ∧ off < 9223372036854775808 ∧ mask < 4294967296 from ⟨bo.1, bo.2, bmk⟩)
      obtain ⟨o60, ho60⟩ : ∃ o : Nat, max 0 (min off 60) = (o : Int) ∧ o ≤ 60 := ⟨(max 0 (min off 60)).toNat, by omega, by omega⟩
      have HO60 := Lib.hid ho60
      clear ho60 bo bmk
      have HPNp := Lib.hid (show p < N by omega)
      have HRo := Lib.hid (show RefOk 3 p gen b.length (44 * K) from ⟨by decide, by decide, by have := G0.out.2.2.2.2; omega, bg, by have := HNB.out; omega, by have := G0.out.2.2.1; have := G0.out.2.1; omega⟩)
      have HND := Lib.hid (show ng ≤ 30 by omega)
      clear q1 q2 q3 q4
      go_wp2_with fail
      have hb : Below w2.heap.size w2 (w2.alloc (.cells #[.int .u8 3, .int .i64 (p : Int), .int .u64 (gen : Int)] 34)) := (Below.refl _ _).alloc (Nat.le_refl _) _
      have hrr : Rf13 (w2.alloc (.cells #[.int .u8 3, .int .i64 (p : Int), .int .u64 (gen : Int)] 34)) w2.heap.size 3 (p : Int) (gen : Int) := heap_alloc_new w2 _
      obtain ⟨w3, hw3⟩ : ∃ x, x = (w2.alloc (.cells #[.int .u8 3, .int .i64 (p : Int), .int .u64 (gen : Int)] 34)) := ⟨_, rfl⟩
      rw [← hw3] at hb hrr ⊢
      obtain ⟨Br, hBr⟩ : ∃ B, B = w2.heap.size := ⟨_, rfl⟩
      rw [← hBr] at hrr ⊢
      have NR := Lib.hid (show ¬ S2 Br from fun q => by have := L2.out.ac.a.old q; omega)
      have RR := Lib.hid hrr
      have Lb1 := Lib.hid (L2.out.later DK hb)
      have Rb2 := Lib.hid (show Geo13 w3 w.heap.size (K : Int) (M : Int) (N : Int) from (hb.block _ (block_lt RG.out)).trans RG.out)
      clear L2 RG
      clear hrr hb hw3 hBr
      have hp := SK.put 3 p gen b A0 c0 Lb1.out.ac HRo.out HPNp.out (HNB.out ▸ (HS0.out.below Lb1.out.bel (Nat.le_refl _))) (fun bb o hn hA q => by have := HS0.out.lt (by decide) (by rw [HNB.out]; exact hn) hA; have := Lb1.out.lo _ q; omega)
      have hst := Str.put (p := p) (N := N) (kd := 3) (g := gen) (k := K) (b := b) Lb1.out.ac.len Lb1.out.ac.n HK.out.1 HRo.out HPNp.out
      rw [cntG_all (n := K + M) live_new13, ← HNB.out, ← Hn.out] at hp
      refine hp.mono ?_; clear hp; rintro e w4 ⟨rfl, hm⟩
      rw [Hn.out] at hm
      have hstt := hst.congr (H := fun _ => true) live_new13
      have hgo := putAll_gone0 (k := K) (n := K + M) (kd := 3) (p := p) (g := gen) (b := b) (new_gone (n := K + M) (N := N))
      have hwl := Wl.mono13 (putAll_wl (c := 0) (k := K) (n := K + M) (kd := 3) (p := p) (g := gen) (b := b) (Idle.new (n := K + M) (N := N)).wl0) (show 0 + 1 ≤ 500 by decide)
      obtain ⟨Sb3, hLb4, hNb5⟩ := Lb1.out.mut hm (hst.len.trans (List.length_replicate ..).symm) hst.ns (hwl.mono13 (by decide))
      have Lb6 := Lib.hid hLb4
      clear hLb4
      have Rb7 := Lib.hid (show Geo13 w4 w.heap.size (K : Int) (M : Int) (N : Int) from hNb5.1.row_some Rb2.out HnZ.out)
      have NSb8 := Lib.hid (show ¬ Sb3 w.heap.size from fun q => (hNb5.2 _ q).elim HnZ.out (fun q => by have := block_lt Rb2.out; omega))
      have Rb9 := Lib.hid (show Rf13 w4 Br 3 (p : Int) (gen : Int) from hNb5.1.row_some RR.out NR.out)
      have NSb10 := Lib.hid (show ¬ Sb3 Br from fun q => (hNb5.2 _ q).elim NR.out (fun q => by have := block_lt RR.out; omega))
      clear hNb5 Lb1 Rb2 HnZ RR NR
      obtain ⟨xsa, hxs⟩ : ∃ x, x = putAll K (K + M) 3 p gen b (List.replicate (K + M) (Dv.new N)) := ⟨_, rfl⟩
      rw [← hxs] at Lb6 hstt hgo hwl
      have Ta := Lib.hid hstt
      have GNa := Lib.hid hgo
      have WLa := Lib.hid hwl
      clear hstt hst hgo hwl hxs hm
      have a0 := Geo13.c0 Rb7.out
      have a1 := Geo13.c1 Rb7.out
      have hwn : wrap64 ((K : Int) + (M : Int)) = (n : Int) := by have := Hn.out; have := HK.out; unfold wrap64; omega
      go_wp2_with fail
      clear a0 a1 hwn
      have hfl := arflush_any DK Lb6.out.ac.a (Lb6.out.ac.wl.mono13 (by decide)) (by rw [Lb6.out.ac.len]; have := HK.out; omega)
      refine hfl.mono ?_; clear hfl; rintro e w5 ⟨rfl, hm⟩
      rw [flushN_all GNa.out, Lb6.out.ac.len, ← Hn.out]
      rw [Lb6.out.ac.len] at hm
      have hst := Ta.out.flush HPNp.out
      have hid := flushS_idle (n := K + M) Lb6.out.ac.len (fun d x h => (Ta.out.ns d x h).1)
      have hgo := flushS_gone (n := K + M) Lb6.out.ac.len GNa.out
      obtain ⟨Sb11, hLb12, hNb13⟩ := Lb6.out.mut hm flushS_len hst.ns hid.wl0
      have Lb14 := Lib.hid hLb12
      clear hLb12
      have Rb15 := Lib.hid (show Geo13 w5 w.heap.size (K : Int) (M : Int) (N : Int) from hNb13.1.row_some Rb7.out NSb8.out)
      have NSb16 := Lib.hid (show ¬ Sb11 w.heap.size from fun q => (hNb13.2 _ q).elim NSb8.out (fun q => by have := block_lt Rb7.out; omega))
      have Rb17 := Lib.hid (show Rf13 w5 Br 3 (p : Int) (gen : Int) from hNb13.1.row_some Rb9.out NSb10.out)
      have NSb18 := Lib.hid (show ¬ Sb11 Br from fun q => (hNb13.2 _ q).elim NSb10.out (fun q => by have := block_lt Rb9.out; omega))
      clear hNb13 Lb6 Rb7 NSb8 Rb9 NSb10
      obtain ⟨xsb, hxs⟩ : ∃ x, x = flushS xsa (K + M) := ⟨_, rfl⟩
      rw [← hxs] at Lb14 hst hid hgo
      have Tb := Lib.hid hst
      have IDb := Lib.hid hid
      have GNb := Lib.hid hgo
      clear hst hid hgo hxs hm
      have a1 := Geo13.c1 Rb15.out
      go_wp2_with fail
      clear a1
      have hds := distinct13_any A1 ng c1 gone n (M : Int) (by omega) (by have := HK.out; omega) (by have := Hn.out; have := HK.out; omega) (by have := HND.out; omega) w5 (HS1.out.below Lb14.out.bel (Nat.le_refl _))
      refine hds.mono ?_; clear hds; rintro e w6 ⟨Al, cl, rfl, hsl, hbd, hlo⟩
      obtain ⟨l, hl⟩ : ∃ l, l = distL n (M : Int) gone [] := ⟨_, rfl⟩
      rw [← hl] at hsl ⊢
      have HDl := Lib.hid (show Dist n l from hl ▸ distL_dist gone [] (Dist.nil n))
      have HLMl := Lib.hid (show l.length ≤ M from by have := distL_most (n := n) (most := (M : Int)) gone [] (by simp); rw [← hl] at this; omega)
      obtain ⟨ql, hql⟩ : ∃ q, q = l.length := ⟨_, rfl⟩
      rw [← hql] at hsl ⊢
      have HQLl := Lib.hid hql
      have hq10l : ql ≤ 10 := by have := HLMl.out; have := HK.out; omega
      have XLl := Lib.hid hsl
      have NXLl := Lib.hid (show ∀ b o, 0 < ql → Al = some ⟨b, o, none⟩ → ¬ Sb11 b from fun b o _ hA q => by have := hlo b o hA; have := Lb14.out.ac.a.old q; omega)
      have Lb19 := Lib.hid (Lb14.out.later DK hbd)
      have Rb20 := Lib.hid (show Geo13 w6 w.heap.size (K : Int) (M : Int) (N : Int) from (hbd.block _ (block_lt Rb15.out)).trans Rb15.out)
      have Rb21 := Lib.hid (show Rf13 w6 Br 3 (p : Int) (gen : Int) from (hbd.block _ (block_lt Rb17.out)).trans Rb17.out)
      clear Lb14 Rb15 Rb17
      clear hsl hlo hbd hl hql
      go_wp2_with fail
      have hhu := hurt_any DK ⟨Lb19.out.ac.a, Lb19.out.lo, Lb19.out.bel⟩ (by rw [Lb19.out.ac.len]; have := HK.out; omega) Al cl l (HQLl.out ▸ XLl.out) (fun d hd => by rw [Lb19.out.ac.len, ← Hn.out]; exact HDl.out.lt d hd) (HQLl.out ▸ NXLl.out) (by have := HQLl.out; omega) (p : Int) off mask (by omega) (by omega) HOF.out.1 HOF.out.2.1 HOF.out.2.2
      rw [← HQLl.out] at hhu
      refine hhu.mono ?_; clear hhu; rintro e w7 ⟨rfl, Scx, hla, hnx⟩
      rw [HO60.out.1] at hla
      have hst := Tb.out.hurtAll IDb.out HK.out.1 HRo.out HPNp.out (off := o60) (mask := max 1 mask) HO60.out.2 (by omega) (by have := HOF.out; omega) (Hn.out ▸ HDl.out) (fun d _ => rfl)
      rw [← HQLl.out] at hst
      have hid := hurtT_idle (p := (p : Int)) (off := (o60 : Int)) (mask := max 1 mask) (l := l) IDb.out ql
      have hm : MutA Rep Sb11 A (hurtT (p : Int) (o60 : Int) (max 1 mask) l xsb ql) w6 w7 := ⟨Scx, hla.ap, hnx⟩
      clear hla hnx
      obtain ⟨Sb22, hLb23, hNb24⟩ := Lb19.out.mut hm (hurtT_len _) hst.ns hid.wl0
      have Lb25 := Lib.hid hLb23
      clear hLb23
      have Rb26 := Lib.hid (show Geo13 w7 w.heap.size (K : Int) (M : Int) (N : Int) from hNb24.1.row_some Rb20.out NSb16.out)
      have NSb27 := Lib.hid (show ¬ Sb22 w.heap.size from fun q => (hNb24.2 _ q).elim NSb16.out (fun q => by have := block_lt Rb20.out; omega))
      have Rb28 := Lib.hid (show Rf13 w7 Br 3 (p : Int) (gen : Int) from hNb24.1.row_some Rb21.out NSb18.out)
      have NSb29 := Lib.hid (show ¬ Sb22 Br from fun q => (hNb24.2 _ q).elim NSb18.out (fun q => by have := block_lt Rb21.out; omega))
      have Xb30 := Lib.hid (show Sl w7 1 Al ql cl (ncells l) from XLl.out.fr hNb24.1 NXLl.out)
      have NXb31 := Lib.hid (show ∀ b o, 0 < ql → Al = some ⟨b, o, none⟩ → ¬ Sb22 b from fun b o hn hA q => (hNb24.2 _ q).elim (NXLl.out b o hn hA) (fun q => by have := XLl.out.lt (by decide) hn hA; omega))
      clear hNb24 Lb19 Rb20 NSb16 Rb21 NSb18 XLl NXLl
      obtain ⟨xsc, hxs⟩ : ∃ x, x = hurtT (p : Int) (o60 : Int) (max 1 mask) l xsb ql := ⟨_, rfl⟩
      rw [← hxs] at Lb25 hst hid
      have Tc := Lib.hid hst
      have IDc := Lib.hid hid
      have HCc := Lib.hid (show K ≤ cntG (K + M) (fun e => !l.contains e) from by
       have h1 := cntG_less HDl.out
       have h2 := HLMl.out
       have h3 := Hn.out
       rw [h3] at h1
       omega)
      clear hst hid hxs hm
      go_wp2_with (first
       | (refine at_dst11 (d := 101) ?_; refine wpList_step11 (o := ⟨some 101, _, _, _, _, _⟩) rfl _ w7 (step_ref13 (x := .tmp 17) rfl rfl Rb28.out) ?_))
      have hg := SK.get Lb25.out.ac HRo.out HPNp.out Tc.out
      rw [if_pos HCc.out, if_pos HCc.out] at hg
      refine hg.mono ?_; clear hg; rintro e w8 ⟨Aw8, nw8, cw8, rfl, hsw8, hb, -⟩
      obtain rfl : nb = nw8 := by have := hsw8.len; rw [cells_length, Nat.mul_one] at this; rw [HNB.out]; exact this
      have Lb32 := Lib.hid (Lb25.out.later DK hb)
      have Rb33 := Lib.hid (show Geo13 w8 w.heap.size (K : Int) (M : Int) (N : Int) from (hb.block _ (block_lt Rb26.out)).trans Rb26.out)
      have Rb34 := Lib.hid (show Rf13 w8 Br 3 (p : Int) (gen : Int) from (hb.block _ (block_lt Rb28.out)).trans Rb28.out)
      have Xb35 := Lib.hid (show Sl w8 1 Al ql cl (ncells l) from Xb30.out.below hb (Nat.le_refl _))
      clear Lb25 Rb26 Rb28 Xb30
      clear hb
      have k5 := str_of hsw8
      have hsn : Sl w8 1 A0 b.length c0 (cells b) := HNB.out ▸ (HS0.out.below Lb32.out.bel (Nat.le_refl _))
      have k6 := str_of hsn
      rw [← HNB.out] at k6
      have B8 := Lib.hid Lb32.out.bel
      have a1 := Geo13.c1 Rb33.out
      clear hsn hsw8
      by_cases hqm : (ql : Int) < (M : Int)
      ·go_wp2_with fail
       refine (holds13_any DK SK w8 (HN.out.keep B8.out)).mono ?_; rintro e wz ⟨rfl, hbz⟩
       have BZ := Lib.hid (B8.out.trans (hbz.mono B8.out.size))
       clear hbz
       go_wp2_with fail
       go_ret
       exact ⟨rfl, BZ.out⟩
      ·have HQM := Lib.hid (show ql = M from by have := HLMl.out; have := HQLl.out; omega)
       have hn10 : n ≤ 10 := by have := Hn.out; have := HK.out; omega
       have hqf1 : ((ql : Int) < (M : Int)) = False := eq_false hqm
       have hqf2 : (ql < M) = False := eq_false (by omega)
       go_wp2_with fail
       (try simp only [hqf1, hqf2, decide_false])
       clear k5 k6 a1 hqm hqf1 hqf2
       go_loopw [23] (fun i wr => ∃ (t : Nat), t ≤ n ∧ i = .int .i64 (t : Int) ∧ Below w8.heap.size w8 wr) (fun i _ => n - (intOf i).toNat)
       case atStart => exact ⟨0, by omega, rfl, Below.refl _ _⟩
       case round =>
        obtain ⟨t, ht, rfl, hbr⟩ := hrel
        have HBR := Lib.hid hbr
        have hb := hbr
        have Lb36 := Lib.hid (Lb32.out.later DK hb)
        have Rb37 := Lib.hid (show Geo13 wr w.heap.size (K : Int) (M : Int) (N : Int) from (hb.block _ (block_lt Rb33.out)).trans Rb33.out)
        have Rb38 := Lib.hid (show Rf13 wr Br 3 (p : Int) (gen : Int) from (hb.block _ (block_lt Rb34.out)).trans Rb34.out)
        have Xb39 := Lib.hid (show Sl wr 1 Al ql cl (ncells l) from Xb35.out.below hb (Nat.le_refl _))
        clear Lb32 Rb33 Rb34 Xb35
        clear hb hbr
        by_cases hlt : t < n
        ·have hti : (t : Int) < (n : Int) := by omega
         have hwm : IntKind.i64.wrap ((M : Int) + 1) = (M : Int) + 1 := by rw [IntKind.wrap_i64]; have := HK.out; omega
         obtain ⟨i0, hi, hz0, hz1, hz2⟩ := info_parts info_i
         obtain ⟨zl, hzl⟩ : ∃ z, z = distL n ((M : Int) + 1) ((l ++ [t]).map fun (x : Nat) => (x : Int)) [] := ⟨_, rfl⟩
         have hzq := distL_one (most := (M : Int) + 1) l [] t (by simpa using HDl.out) (by rw [List.nil_append, ← HQLl.out, HQM.out]; omega) hlt
         rw [← hzl, List.nil_append] at hzq
         have HZL := Lib.hid hzl
         obtain ⟨lz, hlz⟩ : ∃ z, z = zl.length := ⟨_, rfl⟩
         have HLZ := Lib.hid hlz
         have HLT := Lib.hid (show wr.heap.size > w.heap.size from by have := block_lt Rb37.out; omega)
         go_wp2_with fail
         by_cases hmem : t ∈ l
         ·have hgt : ¬ (M : Int) < (lz : Int) := by
           rw [if_pos hmem] at hzq
           rw [hlz, hzq, ← HQLl.out, HQM.out]
           omega
          clear hzq hzl hlz
          refine wp_region_held_drew (S := fun w' => Fr (fun x => wr.heap.size ≤ x) wr w') (by kernel_rfl) (Fr.drew (Fr.refl _ _)) (fun hHeld => ?_)
          clear hHeld
          have hHeld : Fr (fun x => wr.heap.size ≤ x) wr wr.drew := Fr.drew (Fr.refl _ _)
          have hz_0 : wr.heap.size ≤ wr.drew.heap.size := Nat.le_refl _
          obtain ⟨v_1, hw⟩ : ∃ v_1, v_1 = wr.drew := ⟨_, rfl⟩
          rw [← hw] at hHeld hz_0  ⊢
          clear hw
          refine tL (i := 1) (d := some 126) (v := ?vg1_2) rfl ?yg1_2 hHeld ?rg1_2
          case yg1_2 =>
           intro wq hSw
           (try dsimp only at hSw)
           go_simp <;> with_reducible rfl
          try simp only [Act.put,sA,sB,sC]
          refine tL (i := 3) (d := some 128) (v := ?vg3_3) rfl ?yg3_3 hHeld ?rg3_3
          case yg3_3 =>
           intro wq hSw
           (try dsimp only at hSw)
           go_simp <;> with_reducible rfl
          try simp only [Act.put,sA,sB,sC]
          refine tL (i := 6) (d := some 131) (v := ?vg6_4) rfl ?yg6_4 hHeld ?rg6_4
          case yg6_4 =>
           intro wq hSw
           (try dsimp only at hSw)
           go_simp <;> with_reducible rfl
          try simp only [Act.put,sA,sB,sC]
          refine tL (i := 7) (d := some 132) (v := ?vg7_5) rfl ?yg7_5 hHeld ?rg7_5
          case yg7_5 =>
           intro wq hSw
           (try dsimp only at hSw)
           go_simp <;> with_reducible rfl
          try simp only [Act.put,sA,sB,sC]
          refine tL (i := 8) (d := some 133) (v := ?vg8_6) rfl ?yg8_6 hHeld ?rg8_6
          case yg8_6 =>
           intro wq hSw
           (try dsimp only at hSw)
           have hq := hSw.cell_some (Geo13.c1 Rb37.out) (fun h => by have h : wr.heap.size ≤ w.heap.size := h; have := HLT.out; omega)
           go_simp <;> with_reducible rfl
          try simp only [Act.put,sA,sB,sC]
          refine tL (i := 9) (d := some 134) (v := ?vg9_7) rfl ?yg9_7 hHeld ?rg9_7
          case yg9_7 =>
           intro wq hSw
           (try dsimp only at hSw)
           go_simp <;> with_reducible rfl
          try simp only [Act.put,sA,sB,sC]
          refine tL (i := 12) (d := some 137) (v := ?vg12_8) rfl ?yg12_8 hHeld ?rg12_8
          case yg12_8 =>
           intro wq hSw
           (try dsimp only at hSw)
           go_simp <;> with_reducible rfl
          try simp only [Act.put,sA,sB,sC]
          refine tL (i := 13) (d := some 138) (v := ?vg13_9) rfl ?yg13_9 hHeld ?rg13_9
          case yg13_9 =>
           intro wq hSw
           (try dsimp only at hSw)
           have hq := hSw.cell_some (Geo13.c1 Rb37.out) (fun h => by have h : wr.heap.size ≤ w.heap.size := h; have := HLT.out; omega)
           go_simp <;> with_reducible rfl
          try simp only [Act.put,sA,sB,sC]
          refine wpAnyH_ready (rs := [0, 4]) (by kernel_rfl) (by simp) ?_
          refine AllReadyH.cons (o := ⟨some 125, _, _, _, _, _⟩) rfl (fun K hK => ?_) (AllReadyH.cons (o := ⟨some 129, _, _, _, _, _⟩) rfl (fun K hK => ?_) (AllReadyH.nil))
          ·go_simp
           have hbN : Below v_1.heap.size v_1 (v_1.alloc (.cells #[] 3)) := (Below.refl _ _).alloc (Nat.le_refl _) _
           obtain ⟨g_11, hg_11⟩ : ∃ x, x = v_1.heap.size := ⟨_, rfl⟩
           have hsz : g_11 < (v_1.alloc (.cells #[] 3)).heap.size := by rw [hg_11]; simp
           have hnw := Rw.new v_1 #[] 3 1 0 rfl (by decide)
           obtain ⟨v_10, hw⟩ : ∃ x, x = v_1.alloc (.cells #[] 3) := ⟨_, rfl⟩
           rw [← hw] at hbN hsz hnw ⊢
           rw [← hg_11] at hnw ⊢
           have Gg_11 := Lib.hid (show wr.heap.size ≤ g_11 ∧ g_11 < v_10.heap.size from ⟨by have := hHeld.size; omega, hsz⟩)
           have hfN : Fr (fun x => wr.heap.size ≤ x) v_1 v_10 := Fr.of_below hbN
           have E_12 := Lib.hid (show Rn v_10 (some ⟨g_11, 0, none⟩) 3 1 0 0 [] from .inr ⟨g_11, rfl, hnw⟩)
           clear hbN hw hnw hsz hg_11
           have hHeld := hHeld.trans hfN
           have hz_13 := hfN.size
           refine hK.out _ _ hHeld fun _ => ?_
           clear hK K hfN
           try simp only [Act.put,sA,sB,sC]
           refine wpAnyH_ready (rs := [2, 4]) (by kernel_rfl) (by simp) ?_
           refine AllReadyH.cons (o := ⟨some 127, _, _, _, _, _⟩) rfl (fun K hK => ?_) (AllReadyH.cons (o := ⟨some 129, _, _, _, _, _⟩) rfl (fun K hK => ?_) (AllReadyH.nil))
           ·refine wp_appI13 (.tmp 125) (.tmp 126) rfl rfl E_12.out Al ql cl l rfl (Xb39.out.fr hHeld (fun bb oo hn hA h => by have h : wr.heap.size ≤ bb := h; have := Xb39.out.lt (by decide) hn hA; omega)) ql (by omega) (by omega) ?_
            intro A_16 c_17 v_14 hE hfE hoE
            have hfN : Fr (fun x => wr.heap.size ≤ x) v_10 v_14 := hfE.mono (fun bb hb => by obtain ⟨oo, hb⟩ := hb; injection hb with hb; injection hb with hb _; have := Gg_11.out; show wr.heap.size ≤ bb; omega)
            have BB_18 := Lib.hid (show ∀ bb, Bk A_16 bb → wr.heap.size ≤ bb from fun bb hb => by
             obtain ⟨oo, hb⟩ := hb
             have h1 := Gg_11.out
             have h2 := hHeld.size
             rcases hoE with h | h
             ·rw [h] at hb; injection hb with hb; injection hb with hb _; omega
             ·rw [h] at hb; injection hb with hb; injection hb with hb _; omega)
            have E_15 := Lib.hid (show Rn v_14 A_16 3 1 ql c_17 (ncells l) from hE)
            clear E_12 hE hfE hoE
            have hHeld := hHeld.trans hfN
            have hz_19 := hfN.size
            refine hK.out _ _ hHeld fun _ => ?_
            clear hK K hfN
            try simp only [Act.put,sA,sB,sC]
            refine rW (i := 4) (d := some 129) rfl fun K hK => ?_
            go_simp
            have hbN : Below v_14.heap.size v_14 (v_14.alloc (.cells #[.int .i64 (t : Int)] 3)) := (Below.refl _ _).alloc (Nat.le_refl _) _
            obtain ⟨g_21, hg_21⟩ : ∃ x, x = v_14.heap.size := ⟨_, rfl⟩
            have hsz : g_21 < (v_14.alloc (.cells #[.int .i64 (t : Int)] 3)).heap.size := by rw [hg_21]; simp
            have hnw := Sl.oneN v_14 3 t (t : Int) rfl
            obtain ⟨v_20, hw⟩ : ∃ x, x = v_14.alloc (.cells #[.int .i64 (t : Int)] 3) := ⟨_, rfl⟩
            rw [← hw] at hbN hsz hnw ⊢
            rw [← hg_21] at hnw ⊢
            have Gg_21 := Lib.hid (show wr.heap.size ≤ g_21 ∧ g_21 < v_20.heap.size from ⟨by have := hHeld.size; omega, hsz⟩)
            have hfN : Fr (fun x => wr.heap.size ≤ x) v_14 v_20 := Fr.of_below hbN
            have X_22 := Lib.hid hnw
            have E_23 := Lib.hid (E_15.out.fr (Fr.of_below hbN : Fr (fun _ => False) _ _) (fun _ _ h => h))
            have D_24 := Lib.hid (show ¬ g_21 = g_11 from by have := Gg_11.out; omega)
            clear E_15
            clear hbN hw hnw hsz hg_21
            have hHeld := hHeld.trans hfN
            have hz_25 := hfN.size
            refine hK.out _ _ hHeld fun _ => ?_
            clear hK K hfN
            try simp only [Act.put,sA,sB,sC]
            refine rW (i := 5) (d := some 130) rfl fun K hK => ?_
            refine wp_appI13 (.tmp 127) (.tmp 129) rfl rfl E_23.out (some ⟨g_21, 0, none⟩) 1 1 [t] rfl X_22.out (ql + 1) rfl (by omega) ?_
            intro A_28 c_29 v_26 hE hfE hoE
            have hfN : Fr (fun x => wr.heap.size ≤ x) v_20 v_26 := hfE.mono (fun bb hb => BB_18.out bb hb)
            have hE := hE.sl
            rw [show ncells l ++ ncells [t] = icells ((l ++ [t]).map fun (x : Nat) => (x : Int)) from by simp [ncells, icells]] at hE
            have E_27 := Lib.hid hE
            clear E_23 X_22 hE hfE hoE
            have hHeld := hHeld.trans hfN
            have hz_30 := hfN.size
            refine hK.out _ _ hHeld fun _ => ?_
            clear hK K hfN
            try simp only [Act.put,sA,sB,sC]
            refine rW (i := 10) (d := some 135) rfl fun K hK => ?_
            go_simp
            have hds := distinct13_any A_28 (ql + 1) c_29 ((l ++ [t]).map fun (x : Nat) => (x : Int)) n ((M : Int) + 1) (by omega) (by have := HK.out; omega) (by omega) (by omega) v_26 E_27.out
            rw [← HZL.out] at hds
            refine hds.mono ?_; clear hds; rintro e v_31 ⟨Az_, cz_, rfl, -, hbN, -⟩
            rw [← HLZ.out]
            have hfN : Fr (fun x => wr.heap.size ≤ x) v_26 v_31 := Fr.of_below hbN
            clear hbN E_27
            go_wp2_with fail
            have hHeld := hHeld.trans hfN
            have hz_32 := hfN.size
            refine hK.out _ _ hHeld fun _ => ?_
            clear hK K hfN
            try simp only [Act.put,sA,sB,sC]
            refine tL (i := 11) (d := some 136) (v := ?vg11_33) rfl ?yg11_33 hHeld ?rg11_33
            case yg11_33 =>
             intro wq hSw
             (try dsimp only at hSw)
             go_simp <;> with_reducible rfl
            try simp only [Act.put,sA,sB,sC]
            refine tL (i := 14) (d := some 139) (v := ?vg14_34) rfl ?yg14_34 hHeld ?rg14_34
            case yg14_34 =>
             intro wq hSw
             (try dsimp only at hSw)
             go_simp <;> with_reducible rfl
            try simp only [Act.put,sA,sB,sC]
            refine tD ?_
            have hbq : Below wr.heap.size wr v_31 := hHeld.belowAll (fun _ h => h)
            obtain ⟨wq, hwq⟩ : ∃ x, x = v_31 := ⟨_, rfl⟩
            rw [← hwq] at hbq ⊢
            clear hwq hHeld
            have HQ := Lib.hid (HBR.out.trans (hbq.mono HBR.out.size))
            clear hbq
            go_wp2_with fail
            go_roundw
            case rel => exact ⟨t + 1, by omega, by go_num, HQ.out⟩
            case measure => simp [intOf]; omega
           ·go_simp
            have hbN : Below v_10.heap.size v_10 (v_10.alloc (.cells #[.int .i64 (t : Int)] 3)) := (Below.refl _ _).alloc (Nat.le_refl _) _
            obtain ⟨g_36, hg_36⟩ : ∃ x, x = v_10.heap.size := ⟨_, rfl⟩
            have hsz : g_36 < (v_10.alloc (.cells #[.int .i64 (t : Int)] 3)).heap.size := by rw [hg_36]; simp
            have hnw := Sl.oneN v_10 3 t (t : Int) rfl
            obtain ⟨v_35, hw⟩ : ∃ x, x = v_10.alloc (.cells #[.int .i64 (t : Int)] 3) := ⟨_, rfl⟩
            rw [← hw] at hbN hsz hnw ⊢
            rw [← hg_36] at hnw ⊢
            have Gg_36 := Lib.hid (show wr.heap.size ≤ g_36 ∧ g_36 < v_35.heap.size from ⟨by have := hHeld.size; omega, hsz⟩)
            have hfN : Fr (fun x => wr.heap.size ≤ x) v_10 v_35 := Fr.of_below hbN
            have X_37 := Lib.hid hnw
            have E_38 := Lib.hid (E_12.out.fr (Fr.of_below hbN : Fr (fun _ => False) _ _) (fun _ _ h => h))
            have D_39 := Lib.hid (show ¬ g_36 = g_11 from by have := Gg_11.out; omega)
            clear E_12
            clear hbN hw hnw hsz hg_36
            have hHeld := hHeld.trans hfN
            have hz_40 := hfN.size
            refine hK.out _ _ hHeld fun _ => ?_
            clear hK K hfN
            try simp only [Act.put,sA,sB,sC]
            refine rW (i := 2) (d := some 127) rfl fun K hK => ?_
            refine wp_appI13 (.tmp 125) (.tmp 126) rfl rfl E_38.out Al ql cl l rfl (Xb39.out.fr hHeld (fun bb oo hn hA h => by have h : wr.heap.size ≤ bb := h; have := Xb39.out.lt (by decide) hn hA; omega)) ql (by omega) (by omega) ?_
            intro A_43 c_44 v_41 hE hfE hoE
            have hfN : Fr (fun x => wr.heap.size ≤ x) v_35 v_41 := hfE.mono (fun bb hb => by obtain ⟨oo, hb⟩ := hb; injection hb with hb; injection hb with hb _; have := Gg_11.out; show wr.heap.size ≤ bb; omega)
            have BB_45 := Lib.hid (show ∀ bb, Bk A_43 bb → wr.heap.size ≤ bb from fun bb hb => by
             obtain ⟨oo, hb⟩ := hb
             have h1 := Gg_11.out
             have h2 := hHeld.size
             rcases hoE with h | h
             ·rw [h] at hb; injection hb with hb; injection hb with hb _; omega
             ·rw [h] at hb; injection hb with hb; injection hb with hb _; omega)
            have E_42 := Lib.hid (show Rn v_41 A_43 3 1 ql c_44 (ncells l) from hE)
            have hN4 := D_39.out
            have X_46 := Lib.hid (X_37.out.fr hfE (fun bb oo _ hA h => by obtain ⟨o2, h⟩ := h; injection hA with hA; injection hA with hA _; injection h with h; injection h with h _; omega))
            clear hN4 X_37
            clear E_38 hE hfE hoE
            have hHeld := hHeld.trans hfN
            have hz_47 := hfN.size
            refine hK.out _ _ hHeld fun _ => ?_
            clear hK K hfN
            try simp only [Act.put,sA,sB,sC]
            refine rW (i := 5) (d := some 130) rfl fun K hK => ?_
            refine wp_appI13 (.tmp 127) (.tmp 129) rfl rfl E_42.out (some ⟨g_36, 0, none⟩) 1 1 [t] rfl X_46.out (ql + 1) rfl (by omega) ?_
            intro A_50 c_51 v_48 hE hfE hoE
            have hfN : Fr (fun x => wr.heap.size ≤ x) v_41 v_48 := hfE.mono (fun bb hb => BB_45.out bb hb)
            have hE := hE.sl
            rw [show ncells l ++ ncells [t] = icells ((l ++ [t]).map fun (x : Nat) => (x : Int)) from by simp [ncells, icells]] at hE
            have E_49 := Lib.hid hE
            clear E_42 X_46 hE hfE hoE
            have hHeld := hHeld.trans hfN
            have hz_52 := hfN.size
            refine hK.out _ _ hHeld fun _ => ?_
            clear hK K hfN
            try simp only [Act.put,sA,sB,sC]
            refine rW (i := 10) (d := some 135) rfl fun K hK => ?_
            go_simp
            have hds := distinct13_any A_50 (ql + 1) c_51 ((l ++ [t]).map fun (x : Nat) => (x : Int)) n ((M : Int) + 1) (by omega) (by have := HK.out; omega) (by omega) (by omega) v_48 E_49.out
            rw [← HZL.out] at hds
            refine hds.mono ?_; clear hds; rintro e v_53 ⟨Az_, cz_, rfl, -, hbN, -⟩
            rw [← HLZ.out]
            have hfN : Fr (fun x => wr.heap.size ≤ x) v_48 v_53 := Fr.of_below hbN
            clear hbN E_49
            go_wp2_with fail
            have hHeld := hHeld.trans hfN
            have hz_54 := hfN.size
            refine hK.out _ _ hHeld fun _ => ?_
            clear hK K hfN
            try simp only [Act.put,sA,sB,sC]
            refine tL (i := 11) (d := some 136) (v := ?vg11_55) rfl ?yg11_55 hHeld ?rg11_55
            case yg11_55 =>
             intro wq hSw
             (try dsimp only at hSw)
             go_simp <;> with_reducible rfl
            try simp only [Act.put,sA,sB,sC]
            refine tL (i := 14) (d := some 139) (v := ?vg14_56) rfl ?yg14_56 hHeld ?rg14_56
            case yg14_56 =>
             intro wq hSw
             (try dsimp only at hSw)
             go_simp <;> with_reducible rfl
            try simp only [Act.put,sA,sB,sC]
            refine tD ?_
            have hbq : Below wr.heap.size wr v_53 := hHeld.belowAll (fun _ h => h)
            obtain ⟨wq, hwq⟩ : ∃ x, x = v_53 := ⟨_, rfl⟩
            rw [← hwq] at hbq ⊢
            clear hwq hHeld
            have HQ := Lib.hid (HBR.out.trans (hbq.mono HBR.out.size))
            clear hbq
            go_wp2_with fail
            go_roundw
            case rel => exact ⟨t + 1, by omega, by go_num, HQ.out⟩
            case measure => simp [intOf]; omega
          ·go_simp
           have hbN : Below v_1.heap.size v_1 (v_1.alloc (.cells #[.int .i64 (t : Int)] 3)) := (Below.refl _ _).alloc (Nat.le_refl _) _
           obtain ⟨g_58, hg_58⟩ : ∃ x, x = v_1.heap.size := ⟨_, rfl⟩
           have hsz : g_58 < (v_1.alloc (.cells #[.int .i64 (t : Int)] 3)).heap.size := by rw [hg_58]; simp
           have hnw := Sl.oneN v_1 3 t (t : Int) rfl
           obtain ⟨v_57, hw⟩ : ∃ x, x = v_1.alloc (.cells #[.int .i64 (t : Int)] 3) := ⟨_, rfl⟩
           rw [← hw] at hbN hsz hnw ⊢
           rw [← hg_58] at hnw ⊢
           have Gg_58 := Lib.hid (show wr.heap.size ≤ g_58 ∧ g_58 < v_57.heap.size from ⟨by have := hHeld.size; omega, hsz⟩)
           have hfN : Fr (fun x => wr.heap.size ≤ x) v_1 v_57 := Fr.of_below hbN
           have X_59 := Lib.hid hnw
           clear hbN hw hnw hsz hg_58
           have hHeld := hHeld.trans hfN
           have hz_60 := hfN.size
           refine hK.out _ _ hHeld fun _ => ?_
           clear hK K hfN
           try simp only [Act.put,sA,sB,sC]
           refine rW (i := 0) (d := some 125) rfl fun K hK => ?_
           go_simp
           have hbN : Below v_57.heap.size v_57 (v_57.alloc (.cells #[] 3)) := (Below.refl _ _).alloc (Nat.le_refl _) _
           obtain ⟨g_62, hg_62⟩ : ∃ x, x = v_57.heap.size := ⟨_, rfl⟩
           have hsz : g_62 < (v_57.alloc (.cells #[] 3)).heap.size := by rw [hg_62]; simp
           have hnw := Rw.new v_57 #[] 3 1 0 rfl (by decide)
           obtain ⟨v_61, hw⟩ : ∃ x, x = v_57.alloc (.cells #[] 3) := ⟨_, rfl⟩
           rw [← hw] at hbN hsz hnw ⊢
           rw [← hg_62] at hnw ⊢
           have Gg_62 := Lib.hid (show wr.heap.size ≤ g_62 ∧ g_62 < v_61.heap.size from ⟨by have := hHeld.size; omega, hsz⟩)
           have hfN : Fr (fun x => wr.heap.size ≤ x) v_57 v_61 := Fr.of_below hbN
           have E_63 := Lib.hid (show Rn v_61 (some ⟨g_62, 0, none⟩) 3 1 0 0 [] from .inr ⟨g_62, rfl, hnw⟩)
           have X_64 := Lib.hid (X_59.out.fr (Fr.of_below hbN : Fr (fun _ => False) _ _) (fun _ _ _ _ h => h))
           have D_65 := Lib.hid (show ¬ g_58 = g_62 from by have := Gg_58.out; omega)
           clear X_59
           clear hbN hw hnw hsz hg_62
           have hHeld := hHeld.trans hfN
           have hz_66 := hfN.size
           refine hK.out _ _ hHeld fun _ => ?_
           clear hK K hfN
           try simp only [Act.put,sA,sB,sC]
           refine rW (i := 2) (d := some 127) rfl fun K hK => ?_
           refine wp_appI13 (.tmp 125) (.tmp 126) rfl rfl E_63.out Al ql cl l rfl (Xb39.out.fr hHeld (fun bb oo hn hA h => by have h : wr.heap.size ≤ bb := h; have := Xb39.out.lt (by decide) hn hA; omega)) ql (by omega) (by omega) ?_
           intro A_69 c_70 v_67 hE hfE hoE
           have hfN : Fr (fun x => wr.heap.size ≤ x) v_61 v_67 := hfE.mono (fun bb hb => by obtain ⟨oo, hb⟩ := hb; injection hb with hb; injection hb with hb _; have := Gg_62.out; show wr.heap.size ≤ bb; omega)
           have BB_71 := Lib.hid (show ∀ bb, Bk A_69 bb → wr.heap.size ≤ bb from fun bb hb => by
            obtain ⟨oo, hb⟩ := hb
            have h1 := Gg_62.out
            have h2 := hHeld.size
            rcases hoE with h | h
            ·rw [h] at hb; injection hb with hb; injection hb with hb _; omega
            ·rw [h] at hb; injection hb with hb; injection hb with hb _; omega)
           have E_68 := Lib.hid (show Rn v_67 A_69 3 1 ql c_70 (ncells l) from hE)
           have hN4 := D_65.out
           have X_72 := Lib.hid (X_64.out.fr hfE (fun bb oo _ hA h => by obtain ⟨o2, h⟩ := h; injection hA with hA; injection hA with hA _; injection h with h; injection h with h _; omega))
           clear hN4 X_64
           clear E_63 hE hfE hoE
           have hHeld := hHeld.trans hfN
           have hz_73 := hfN.size
           refine hK.out _ _ hHeld fun _ => ?_
           clear hK K hfN
           try simp only [Act.put,sA,sB,sC]
           refine rW (i := 5) (d := some 130) rfl fun K hK => ?_
           refine wp_appI13 (.tmp 127) (.tmp 129) rfl rfl E_68.out (some ⟨g_58, 0, none⟩) 1 1 [t] rfl X_72.out (ql + 1) rfl (by omega) ?_
           intro A_76 c_77 v_74 hE hfE hoE
           have hfN : Fr (fun x => wr.heap.size ≤ x) v_67 v_74 := hfE.mono (fun bb hb => BB_71.out bb hb)
           have hE := hE.sl
           rw [show ncells l ++ ncells [t] = icells ((l ++ [t]).map fun (x : Nat) => (x : Int)) from by simp [ncells, icells]] at hE
           have E_75 := Lib.hid hE
           clear E_68 X_72 hE hfE hoE
           have hHeld := hHeld.trans hfN
           have hz_78 := hfN.size
           refine hK.out _ _ hHeld fun _ => ?_
           clear hK K hfN
           try simp only [Act.put,sA,sB,sC]
           refine rW (i := 10) (d := some 135) rfl fun K hK => ?_
           go_simp
           have hds := distinct13_any A_76 (ql + 1) c_77 ((l ++ [t]).map fun (x : Nat) => (x : Int)) n ((M : Int) + 1) (by omega) (by have := HK.out; omega) (by omega) (by omega) v_74 E_75.out
           rw [← HZL.out] at hds
           refine hds.mono ?_; clear hds; rintro e v_79 ⟨Az_, cz_, rfl, -, hbN, -⟩
           rw [← HLZ.out]
           have hfN : Fr (fun x => wr.heap.size ≤ x) v_74 v_79 := Fr.of_below hbN
           clear hbN E_75
           go_wp2_with fail
           have hHeld := hHeld.trans hfN
           have hz_80 := hfN.size
           refine hK.out _ _ hHeld fun _ => ?_
           clear hK K hfN
           try simp only [Act.put,sA,sB,sC]
           refine tL (i := 11) (d := some 136) (v := ?vg11_81) rfl ?yg11_81 hHeld ?rg11_81
           case yg11_81 =>
            intro wq hSw
            (try dsimp only at hSw)
            go_simp <;> with_reducible rfl
           try simp only [Act.put,sA,sB,sC]
           refine tL (i := 14) (d := some 139) (v := ?vg14_82) rfl ?yg14_82 hHeld ?rg14_82
           case yg14_82 =>
            intro wq hSw
            (try dsimp only at hSw)
            go_simp <;> with_reducible rfl
           try simp only [Act.put,sA,sB,sC]
           refine tD ?_
           have hbq : Below wr.heap.size wr v_79 := hHeld.belowAll (fun _ h => h)
           obtain ⟨wq, hwq⟩ : ∃ x, x = v_79 := ⟨_, rfl⟩
           rw [← hwq] at hbq ⊢
           clear hwq hHeld
           have HQ := Lib.hid (HBR.out.trans (hbq.mono HBR.out.size))
           clear hbq
           go_wp2_with fail
           go_roundw
           case rel => exact ⟨t + 1, by omega, by go_num, HQ.out⟩
           case measure => simp [intOf]; omega
         ·have hgt : (M : Int) < (lz : Int) := by
           rw [if_neg hmem] at hzq
           rw [hlz, hzq, List.length_append, ← HQLl.out, HQM.out, List.length_singleton]
           omega
          clear hzq hzl hlz
          refine wp_region_held_drew (S := fun w' => Fr (fun x => wr.heap.size ≤ x) wr w') (by kernel_rfl) (Fr.drew (Fr.refl _ _)) (fun hHeld => ?_)
          clear hHeld
          have hHeld : Fr (fun x => wr.heap.size ≤ x) wr wr.drew := Fr.drew (Fr.refl _ _)
          have hz_0 : wr.heap.size ≤ wr.drew.heap.size := Nat.le_refl _
          obtain ⟨v_1001, hw⟩ : ∃ v_1001, v_1001 = wr.drew := ⟨_, rfl⟩
          rw [← hw] at hHeld hz_0  ⊢
          clear hw
          refine tL (i := 1) (d := some 126) (v := ?vg1_1002) rfl ?yg1_1002 hHeld ?rg1_1002
          case yg1_1002 =>
           intro wq hSw
           (try dsimp only at hSw)
           go_simp <;> with_reducible rfl
          try simp only [Act.put,sA,sB,sC]
          refine tL (i := 3) (d := some 128) (v := ?vg3_1003) rfl ?yg3_1003 hHeld ?rg3_1003
          case yg3_1003 =>
           intro wq hSw
           (try dsimp only at hSw)
           go_simp <;> with_reducible rfl
          try simp only [Act.put,sA,sB,sC]
          refine tL (i := 6) (d := some 131) (v := ?vg6_1004) rfl ?yg6_1004 hHeld ?rg6_1004
          case yg6_1004 =>
           intro wq hSw
           (try dsimp only at hSw)
           go_simp <;> with_reducible rfl
          try simp only [Act.put,sA,sB,sC]
          refine tL (i := 7) (d := some 132) (v := ?vg7_1005) rfl ?yg7_1005 hHeld ?rg7_1005
          case yg7_1005 =>
           intro wq hSw
           (try dsimp only at hSw)
           go_simp <;> with_reducible rfl
          try simp only [Act.put,sA,sB,sC]
          refine tL (i := 8) (d := some 133) (v := ?vg8_1006) rfl ?yg8_1006 hHeld ?rg8_1006
          case yg8_1006 =>
           intro wq hSw
           (try dsimp only at hSw)
           have hq := hSw.cell_some (Geo13.c1 Rb37.out) (fun h => by have h : wr.heap.size ≤ w.heap.size := h; have := HLT.out; omega)
           go_simp <;> with_reducible rfl
          try simp only [Act.put,sA,sB,sC]
          refine tL (i := 9) (d := some 134) (v := ?vg9_1007) rfl ?yg9_1007 hHeld ?rg9_1007
          case yg9_1007 =>
           intro wq hSw
           (try dsimp only at hSw)
           go_simp <;> with_reducible rfl
          try simp only [Act.put,sA,sB,sC]
          refine tL (i := 12) (d := some 137) (v := ?vg12_1008) rfl ?yg12_1008 hHeld ?rg12_1008
          case yg12_1008 =>
           intro wq hSw
           (try dsimp only at hSw)
           go_simp <;> with_reducible rfl
          try simp only [Act.put,sA,sB,sC]
          refine tL (i := 13) (d := some 138) (v := ?vg13_1009) rfl ?yg13_1009 hHeld ?rg13_1009
          case yg13_1009 =>
           intro wq hSw
           (try dsimp only at hSw)
           have hq := hSw.cell_some (Geo13.c1 Rb37.out) (fun h => by have h : wr.heap.size ≤ w.heap.size := h; have := HLT.out; omega)
           go_simp <;> with_reducible rfl
          try simp only [Act.put,sA,sB,sC]
          refine wpAnyH_ready (rs := [0, 4]) (by kernel_rfl) (by simp) ?_
          refine AllReadyH.cons (o := ⟨some 125, _, _, _, _, _⟩) rfl (fun K hK => ?_) (AllReadyH.cons (o := ⟨some 129, _, _, _, _, _⟩) rfl (fun K hK => ?_) (AllReadyH.nil))
          ·go_simp
           have hbN : Below v_1001.heap.size v_1001 (v_1001.alloc (.cells #[] 3)) := (Below.refl _ _).alloc (Nat.le_refl _) _
           obtain ⟨g_1011, hg_1011⟩ : ∃ x, x = v_1001.heap.size := ⟨_, rfl⟩
           have hsz : g_1011 < (v_1001.alloc (.cells #[] 3)).heap.size := by rw [hg_1011]; simp
           have hnw := Rw.new v_1001 #[] 3 1 0 rfl (by decide)
           obtain ⟨v_1010, hw⟩ : ∃ x, x = v_1001.alloc (.cells #[] 3) := ⟨_, rfl⟩
           rw [← hw] at hbN hsz hnw ⊢
           rw [← hg_1011] at hnw ⊢
           have Gg_1011 := Lib.hid (show wr.heap.size ≤ g_1011 ∧ g_1011 < v_1010.heap.size from ⟨by have := hHeld.size; omega, hsz⟩)
           have hfN : Fr (fun x => wr.heap.size ≤ x) v_1001 v_1010 := Fr.of_below hbN
           have E_1012 := Lib.hid (show Rn v_1010 (some ⟨g_1011, 0, none⟩) 3 1 0 0 [] from .inr ⟨g_1011, rfl, hnw⟩)
           clear hbN hw hnw hsz hg_1011
           have hHeld := hHeld.trans hfN
           have hz_1013 := hfN.size
           refine hK.out _ _ hHeld fun _ => ?_
           clear hK K hfN
           try simp only [Act.put,sA,sB,sC]
           refine wpAnyH_ready (rs := [2, 4]) (by kernel_rfl) (by simp) ?_
           refine AllReadyH.cons (o := ⟨some 127, _, _, _, _, _⟩) rfl (fun K hK => ?_) (AllReadyH.cons (o := ⟨some 129, _, _, _, _, _⟩) rfl (fun K hK => ?_) (AllReadyH.nil))
           ·refine wp_appI13 (.tmp 125) (.tmp 126) rfl rfl E_1012.out Al ql cl l rfl (Xb39.out.fr hHeld (fun bb oo hn hA h => by have h : wr.heap.size ≤ bb := h; have := Xb39.out.lt (by decide) hn hA; omega)) ql (by omega) (by omega) ?_
            intro A_1016 c_1017 v_1014 hE hfE hoE
            have hfN : Fr (fun x => wr.heap.size ≤ x) v_1010 v_1014 := hfE.mono (fun bb hb => by obtain ⟨oo, hb⟩ := hb; injection hb with hb; injection hb with hb _; have := Gg_1011.out; show wr.heap.size ≤ bb; omega)
            have BB_1018 := Lib.hid (show ∀ bb, Bk A_1016 bb → wr.heap.size ≤ bb from fun bb hb => by
             obtain ⟨oo, hb⟩ := hb
             have h1 := Gg_1011.out
             have h2 := hHeld.size
             rcases hoE with h | h
             ·rw [h] at hb; injection hb with hb; injection hb with hb _; omega
             ·rw [h] at hb; injection hb with hb; injection hb with hb _; omega)
            have E_1015 := Lib.hid (show Rn v_1014 A_1016 3 1 ql c_1017 (ncells l) from hE)
            clear E_1012 hE hfE hoE
            have hHeld := hHeld.trans hfN
            have hz_1019 := hfN.size
            refine hK.out _ _ hHeld fun _ => ?_
            clear hK K hfN
            try simp only [Act.put,sA,sB,sC]
            refine rW (i := 4) (d := some 129) rfl fun K hK => ?_
            go_simp
            have hbN : Below v_1014.heap.size v_1014 (v_1014.alloc (.cells #[.int .i64 (t : Int)] 3)) := (Below.refl _ _).alloc (Nat.le_refl _) _
            obtain ⟨g_1021, hg_1021⟩ : ∃ x, x = v_1014.heap.size := ⟨_, rfl⟩
            have hsz : g_1021 < (v_1014.alloc (.cells #[.int .i64 (t : Int)] 3)).heap.size := by rw [hg_1021]; simp
            have hnw := Sl.oneN v_1014 3 t (t : Int) rfl
            obtain ⟨v_1020, hw⟩ : ∃ x, x = v_1014.alloc (.cells #[.int .i64 (t : Int)] 3) := ⟨_, rfl⟩
            rw [← hw] at hbN hsz hnw ⊢
            rw [← hg_1021] at hnw ⊢
            have Gg_1021 := Lib.hid (show wr.heap.size ≤ g_1021 ∧ g_1021 < v_1020.heap.size from ⟨by have := hHeld.size; omega, hsz⟩)
            have hfN : Fr (fun x => wr.heap.size ≤ x) v_1014 v_1020 := Fr.of_below hbN
            have X_1022 := Lib.hid hnw
            have E_1023 := Lib.hid (E_1015.out.fr (Fr.of_below hbN : Fr (fun _ => False) _ _) (fun _ _ h => h))
            have D_1024 := Lib.hid (show ¬ g_1021 = g_1011 from by have := Gg_1011.out; omega)
            clear E_1015
            clear hbN hw hnw hsz hg_1021
            have hHeld := hHeld.trans hfN
            have hz_1025 := hfN.size
            refine hK.out _ _ hHeld fun _ => ?_
            clear hK K hfN
            try simp only [Act.put,sA,sB,sC]
            refine rW (i := 5) (d := some 130) rfl fun K hK => ?_
            refine wp_appI13 (.tmp 127) (.tmp 129) rfl rfl E_1023.out (some ⟨g_1021, 0, none⟩) 1 1 [t] rfl X_1022.out (ql + 1) rfl (by omega) ?_
            intro A_1028 c_1029 v_1026 hE hfE hoE
            have hfN : Fr (fun x => wr.heap.size ≤ x) v_1020 v_1026 := hfE.mono (fun bb hb => BB_1018.out bb hb)
            have hE := hE.sl
            rw [show ncells l ++ ncells [t] = icells ((l ++ [t]).map fun (x : Nat) => (x : Int)) from by simp [ncells, icells]] at hE
            have E_1027 := Lib.hid hE
            clear E_1023 X_1022 hE hfE hoE
            have hHeld := hHeld.trans hfN
            have hz_1030 := hfN.size
            refine hK.out _ _ hHeld fun _ => ?_
            clear hK K hfN
            try simp only [Act.put,sA,sB,sC]
            refine rW (i := 10) (d := some 135) rfl fun K hK => ?_
            go_simp
            have hds := distinct13_any A_1028 (ql + 1) c_1029 ((l ++ [t]).map fun (x : Nat) => (x : Int)) n ((M : Int) + 1) (by omega) (by have := HK.out; omega) (by omega) (by omega) v_1026 E_1027.out
            rw [← HZL.out] at hds
            refine hds.mono ?_; clear hds; rintro e v_1031 ⟨Az_, cz_, rfl, -, hbN, -⟩
            rw [← HLZ.out]
            have hfN : Fr (fun x => wr.heap.size ≤ x) v_1026 v_1031 := Fr.of_below hbN
            clear hbN E_1027
            go_wp2_with fail
            have hHeld := hHeld.trans hfN
            have hz_1032 := hfN.size
            refine hK.out _ _ hHeld fun _ => ?_
            clear hK K hfN
            try simp only [Act.put,sA,sB,sC]
            refine tL (i := 11) (d := some 136) (v := ?vg11_1033) rfl ?yg11_1033 hHeld ?rg11_1033
            case yg11_1033 =>
             intro wq hSw
             (try dsimp only at hSw)
             go_simp <;> with_reducible rfl
            try simp only [Act.put,sA,sB,sC]
            refine tL (i := 14) (d := some 139) (v := ?vg14_1034) rfl ?yg14_1034 hHeld ?rg14_1034
            case yg14_1034 =>
             intro wq hSw
             (try dsimp only at hSw)
             go_simp <;> with_reducible rfl
            try simp only [Act.put,sA,sB,sC]
            refine tD ?_
            have hbq : Below wr.heap.size wr v_1031 := hHeld.belowAll (fun _ h => h)
            obtain ⟨wq, hwq⟩ : ∃ x, x = v_1031 := ⟨_, rfl⟩
            rw [← hwq] at hbq ⊢
            clear hwq hHeld
            have Lb40 := Lib.hid (Lb36.out.later DK hbq)
            have Rb41 := Lib.hid (show Geo13 wq w.heap.size (K : Int) (M : Int) (N : Int) from (hbq.block _ (block_lt Rb37.out)).trans Rb37.out)
            have Rb42 := Lib.hid (show Rf13 wq Br 3 (p : Int) (gen : Int) from (hbq.block _ (block_lt Rb38.out)).trans Rb38.out)
            have Xb43 := Lib.hid (show Sl wq 1 Al ql cl (ncells l) from Xb39.out.below hbq (Nat.le_refl _))
            clear Lb36 Rb37 Rb38 Xb39
            have HQ := Lib.hid (HBR.out.trans (hbq.mono HBR.out.size))
            clear hbq
            go_wp2_with fail
            have hcp := arcopy_any DK Lb40.out.ac.a (Lb40.out.ac.wl.mono13 (by decide)) (by rw [Lb40.out.ac.len]; have := HK.out; omega)
            refine hcp.mono ?_; clear hcp; rintro e wc hcp
            obtain ⟨Az, Sz, rfl, hLz, hbz, hSz⟩ := Lb40.out.copied hcp
            have LZ := Lib.hid hLz
            have HSz := Lib.hid hSz
            have RZ := Lib.hid (show Rf13 wc Br 3 (p : Int) (gen : Int) from (hbz.block _ (block_lt Rb42.out)).trans Rb42.out)
            have HRz := Lib.hid (show Br < wq.heap.size from block_lt Rb42.out)
            have HQ2 := Lib.hid (HQ.out.trans (hbz.mono HQ.out.size))
            have HQS := Lib.hid (show w8.heap.size ≤ wq.heap.size ∧ wq.heap.size ≤ wc.heap.size from ⟨HQ.out.size, hbz.size⟩)
            clear hcp hLz hbz hSz
            have hfa := arfail_any DK LZ.out.ac.a (by rw [LZ.out.ac.len]; have := HK.out; omega) (t : Int)
            rw [tell_in (by omega) (by rw [LZ.out.ac.len, ← Hn.out]; omega)] at hfa
            go_wp2_with fail
            refine hfa.mono ?_; clear hfa; rintro e wf ⟨rfl, hm⟩
            have hst := Tc.out.fail (d := t) (by rw [← Hn.out]; exact hlt)
            obtain ⟨Sy, hLy, hNy⟩ := LZ.out.mut hm onD_len hst.ns (onD_wl LZ.out.ac.wl (fun x _ => Nat.zero_le _))
            have LY := Lib.hid hLy
            have RY := Lib.hid (show Rf13 wf Br 3 (p : Int) (gen : Int) from hNy.1.row_some RZ.out (fun q => by have := HSz.out _ q; have := HRz.out; omega))
            have HQ3 := Lib.hid (HQ2.out.trans (hNy.1.below (by have := HQS.out; omega) (fun bb hb => by have := HSz.out bb hb; have := HQS.out; omega)))
            have HCN := Lib.hid (show ¬ K ≤ cntG (K + M) (fun e => if e = t then false else !l.contains e) from by
             have h1 := cntG_one (Hn.out ▸ HDl.out) (d := t) (by rw [← Hn.out]; exact hlt) hmem
             have h2 := HQM.out
             have h3 := HQLl.out
             omega)
            have TY := Lib.hid hst
            clear hm hst hLy hNy
            go_wp2_with (first
             | (refine at_dst11 (d := 148) ?_; refine wpList_step11 (o := ⟨some 148, _, _, _, _, _⟩) rfl _ wf (step_ref13 (x := .tmp 17) rfl rfl RY.out) ?_))
            have hg := SK.get LY.out.ac HRo.out HPNp.out TY.out
            rw [if_neg HCN.out, if_neg HCN.out] at hg
            refine hg.mono ?_; clear hg; rintro e wg ⟨Ag, ng2, cg, rfl, hsg, hbg, -⟩
            obtain rfl : ng2 = 0 := by have := hsg.len; rw [cells_length, Nat.mul_one] at this; exact this.symm
            have HQ4 := Lib.hid (HQ3.out.trans (hbg.mono HQ3.out.size))
            clear hsg hbg
            go_wp2_with fail
            go_roundw
            case rel => exact ⟨t + 1, by omega, by go_num, HQ4.out⟩
            case measure => simp [intOf]; omega
           ·go_simp
            have hbN : Below v_1010.heap.size v_1010 (v_1010.alloc (.cells #[.int .i64 (t : Int)] 3)) := (Below.refl _ _).alloc (Nat.le_refl _) _
            obtain ⟨g_1036, hg_1036⟩ : ∃ x, x = v_1010.heap.size := ⟨_, rfl⟩
            have hsz : g_1036 < (v_1010.alloc (.cells #[.int .i64 (t : Int)] 3)).heap.size := by rw [hg_1036]; simp
            have hnw := Sl.oneN v_1010 3 t (t : Int) rfl
            obtain ⟨v_1035, hw⟩ : ∃ x, x = v_1010.alloc (.cells #[.int .i64 (t : Int)] 3) := ⟨_, rfl⟩
            rw [← hw] at hbN hsz hnw ⊢
            rw [← hg_1036] at hnw ⊢
            have Gg_1036 := Lib.hid (show wr.heap.size ≤ g_1036 ∧ g_1036 < v_1035.heap.size from ⟨by have := hHeld.size; omega, hsz⟩)
            have hfN : Fr (fun x => wr.heap.size ≤ x) v_1010 v_1035 := Fr.of_below hbN
            have X_1037 := Lib.hid hnw
            have E_1038 := Lib.hid (E_1012.out.fr (Fr.of_below hbN : Fr (fun _ => False) _ _) (fun _ _ h => h))
            have D_1039 := Lib.hid (show ¬ g_1036 = g_1011 from by have := Gg_1011.out; omega)
            clear E_1012
            clear hbN hw hnw hsz hg_1036
            have hHeld := hHeld.trans hfN
            have hz_1040 := hfN.size
            refine hK.out _ _ hHeld fun _ => ?_
            clear hK K hfN
            try simp only [Act.put,sA,sB,sC]
            refine rW (i := 2) (d := some 127) rfl fun K hK => ?_
            refine wp_appI13 (.tmp 125) (.tmp 126) rfl rfl E_1038.out Al ql cl l rfl (Xb39.out.fr hHeld (fun bb oo hn hA h => by have h : wr.heap.size ≤ bb := h; have := Xb39.out.lt (by decide) hn hA; omega)) ql (by omega) (by omega) ?_
            intro A_1043 c_1044 v_1041 hE hfE hoE
            have hfN : Fr (fun x => wr.heap.size ≤ x) v_1035 v_1041 := hfE.mono (fun bb hb => by obtain ⟨oo, hb⟩ := hb; injection hb with hb; injection hb with hb _; have := Gg_1011.out; show wr.heap.size ≤ bb; omega)
            have BB_1045 := Lib.hid (show ∀ bb, Bk A_1043 bb → wr.heap.size ≤ bb from fun bb hb => by
             obtain ⟨oo, hb⟩ := hb
             have h1 := Gg_1011.out
             have h2 := hHeld.size
             rcases hoE with h | h
             ·rw [h] at hb; injection hb with hb; injection hb with hb _; omega
             ·rw [h] at hb; injection hb with hb; injection hb with hb _; omega)
            have E_1042 := Lib.hid (show Rn v_1041 A_1043 3 1 ql c_1044 (ncells l) from hE)
            have hN4 := D_1039.out
            have X_1046 := Lib.hid (X_1037.out.fr hfE (fun bb oo _ hA h => by obtain ⟨o2, h⟩ := h; injection hA with hA; injection hA with hA _; injection h with h; injection h with h _; omega))
            clear hN4 X_1037
            clear E_1038 hE hfE hoE
            have hHeld := hHeld.trans hfN
            have hz_1047 := hfN.size
            refine hK.out _ _ hHeld fun _ => ?_
            clear hK K hfN
            try simp only [Act.put,sA,sB,sC]
            refine rW (i := 5) (d := some 130) rfl fun K hK => ?_
            refine wp_appI13 (.tmp 127) (.tmp 129) rfl rfl E_1042.out (some ⟨g_1036, 0, none⟩) 1 1 [t] rfl X_1046.out (ql + 1) rfl (by omega) ?_
            intro A_1050 c_1051 v_1048 hE hfE hoE
            have hfN : Fr (fun x => wr.heap.size ≤ x) v_1041 v_1048 := hfE.mono (fun bb hb => BB_1045.out bb hb)
            have hE := hE.sl
            rw [show ncells l ++ ncells [t] = icells ((l ++ [t]).map fun (x : Nat) => (x : Int)) from by simp [ncells, icells]] at hE
            have E_1049 := Lib.hid hE
            clear E_1042 X_1046 hE hfE hoE
            have hHeld := hHeld.trans hfN
            have hz_1052 := hfN.size
            refine hK.out _ _ hHeld fun _ => ?_
            clear hK K hfN
            try simp only [Act.put,sA,sB,sC]
            refine rW (i := 10) (d := some 135) rfl fun K hK => ?_
            go_simp
            have hds := distinct13_any A_1050 (ql + 1) c_1051 ((l ++ [t]).map fun (x : Nat) => (x : Int)) n ((M : Int) + 1) (by omega) (by have := HK.out; omega) (by omega) (by omega) v_1048 E_1049.out
            rw [← HZL.out] at hds
            refine hds.mono ?_; clear hds; rintro e v_1053 ⟨Az_, cz_, rfl, -, hbN, -⟩
            rw [← HLZ.out]
            have hfN : Fr (fun x => wr.heap.size ≤ x) v_1048 v_1053 := Fr.of_below hbN
            clear hbN E_1049
            go_wp2_with fail
            have hHeld := hHeld.trans hfN
            have hz_1054 := hfN.size
            refine hK.out _ _ hHeld fun _ => ?_
            clear hK K hfN
            try simp only [Act.put,sA,sB,sC]
            refine tL (i := 11) (d := some 136) (v := ?vg11_1055) rfl ?yg11_1055 hHeld ?rg11_1055
            case yg11_1055 =>
             intro wq hSw
             (try dsimp only at hSw)
             go_simp <;> with_reducible rfl
            try simp only [Act.put,sA,sB,sC]
            refine tL (i := 14) (d := some 139) (v := ?vg14_1056) rfl ?yg14_1056 hHeld ?rg14_1056
            case yg14_1056 =>
             intro wq hSw
             (try dsimp only at hSw)
             go_simp <;> with_reducible rfl
            try simp only [Act.put,sA,sB,sC]
            refine tD ?_
            have hbq : Below wr.heap.size wr v_1053 := hHeld.belowAll (fun _ h => h)
            obtain ⟨wq, hwq⟩ : ∃ x, x = v_1053 := ⟨_, rfl⟩
            rw [← hwq] at hbq ⊢
            clear hwq hHeld
            have Lb40 := Lib.hid (Lb36.out.later DK hbq)
            have Rb41 := Lib.hid (show Geo13 wq w.heap.size (K : Int) (M : Int) (N : Int) from (hbq.block _ (block_lt Rb37.out)).trans Rb37.out)
            have Rb42 := Lib.hid (show Rf13 wq Br 3 (p : Int) (gen : Int) from (hbq.block _ (block_lt Rb38.out)).trans Rb38.out)
            have Xb43 := Lib.hid (show Sl wq 1 Al ql cl (ncells l) from Xb39.out.below hbq (Nat.le_refl _))
            clear Lb36 Rb37 Rb38 Xb39
            have HQ := Lib.hid (HBR.out.trans (hbq.mono HBR.out.size))
            clear hbq
            go_wp2_with fail
            have hcp := arcopy_any DK Lb40.out.ac.a (Lb40.out.ac.wl.mono13 (by decide)) (by rw [Lb40.out.ac.len]; have := HK.out; omega)
            refine hcp.mono ?_; clear hcp; rintro e wc hcp
            obtain ⟨Az, Sz, rfl, hLz, hbz, hSz⟩ := Lb40.out.copied hcp
            have LZ := Lib.hid hLz
            have HSz := Lib.hid hSz
            have RZ := Lib.hid (show Rf13 wc Br 3 (p : Int) (gen : Int) from (hbz.block _ (block_lt Rb42.out)).trans Rb42.out)
            have HRz := Lib.hid (show Br < wq.heap.size from block_lt Rb42.out)
            have HQ2 := Lib.hid (HQ.out.trans (hbz.mono HQ.out.size))
            have HQS := Lib.hid (show w8.heap.size ≤ wq.heap.size ∧ wq.heap.size ≤ wc.heap.size from ⟨HQ.out.size, hbz.size⟩)
            clear hcp hLz hbz hSz
            have hfa := arfail_any DK LZ.out.ac.a (by rw [LZ.out.ac.len]; have := HK.out; omega) (t : Int)
            rw [tell_in (by omega) (by rw [LZ.out.ac.len, ← Hn.out]; omega)] at hfa
            go_wp2_with fail
            refine hfa.mono ?_; clear hfa; rintro e wf ⟨rfl, hm⟩
            have hst := Tc.out.fail (d := t) (by rw [← Hn.out]; exact hlt)
            obtain ⟨Sy, hLy, hNy⟩ := LZ.out.mut hm onD_len hst.ns (onD_wl LZ.out.ac.wl (fun x _ => Nat.zero_le _))
            have LY := Lib.hid hLy
            have RY := Lib.hid (show Rf13 wf Br 3 (p : Int) (gen : Int) from hNy.1.row_some RZ.out (fun q => by have := HSz.out _ q; have := HRz.out; omega))
            have HQ3 := Lib.hid (HQ2.out.trans (hNy.1.below (by have := HQS.out; omega) (fun bb hb => by have := HSz.out bb hb; have := HQS.out; omega)))
            have HCN := Lib.hid (show ¬ K ≤ cntG (K + M) (fun e => if e = t then false else !l.contains e) from by
             have h1 := cntG_one (Hn.out ▸ HDl.out) (d := t) (by rw [← Hn.out]; exact hlt) hmem
             have h2 := HQM.out
             have h3 := HQLl.out
             omega)
            have TY := Lib.hid hst
            clear hm hst hLy hNy
            go_wp2_with (first
             | (refine at_dst11 (d := 148) ?_; refine wpList_step11 (o := ⟨some 148, _, _, _, _, _⟩) rfl _ wf (step_ref13 (x := .tmp 17) rfl rfl RY.out) ?_))
            have hg := SK.get LY.out.ac HRo.out HPNp.out TY.out
            rw [if_neg HCN.out, if_neg HCN.out] at hg
            refine hg.mono ?_; clear hg; rintro e wg ⟨Ag, ng2, cg, rfl, hsg, hbg, -⟩
            obtain rfl : ng2 = 0 := by have := hsg.len; rw [cells_length, Nat.mul_one] at this; exact this.symm
            have HQ4 := Lib.hid (HQ3.out.trans (hbg.mono HQ3.out.size))
            clear hsg hbg
            go_wp2_with fail
            go_roundw
            case rel => exact ⟨t + 1, by omega, by go_num, HQ4.out⟩
            case measure => simp [intOf]; omega
          ·go_simp
           have hbN : Below v_1001.heap.size v_1001 (v_1001.alloc (.cells #[.int .i64 (t : Int)] 3)) := (Below.refl _ _).alloc (Nat.le_refl _) _
           obtain ⟨g_1058, hg_1058⟩ : ∃ x, x = v_1001.heap.size := ⟨_, rfl⟩
           have hsz : g_1058 < (v_1001.alloc (.cells #[.int .i64 (t : Int)] 3)).heap.size := by rw [hg_1058]; simp
           have hnw := Sl.oneN v_1001 3 t (t : Int) rfl
           obtain ⟨v_1057, hw⟩ : ∃ x, x = v_1001.alloc (.cells #[.int .i64 (t : Int)] 3) := ⟨_, rfl⟩
           rw [← hw] at hbN hsz hnw ⊢
           rw [← hg_1058] at hnw ⊢
           have Gg_1058 := Lib.hid (show wr.heap.size ≤ g_1058 ∧ g_1058 < v_1057.heap.size from ⟨by have := hHeld.size; omega, hsz⟩)
           have hfN : Fr (fun x => wr.heap.size ≤ x) v_1001 v_1057 := Fr.of_below hbN
           have X_1059 := Lib.hid hnw
           clear hbN hw hnw hsz hg_1058
           have hHeld := hHeld.trans hfN
           have hz_1060 := hfN.size
           refine hK.out _ _ hHeld fun _ => ?_
           clear hK K hfN
           try simp only [Act.put,sA,sB,sC]
           refine rW (i := 0) (d := some 125) rfl fun K hK => ?_
           go_simp
           have hbN : Below v_1057.heap.size v_1057 (v_1057.alloc (.cells #[] 3)) := (Below.refl _ _).alloc (Nat.le_refl _) _
           obtain ⟨g_1062, hg_1062⟩ : ∃ x, x = v_1057.heap.size := ⟨_, rfl⟩
           have hsz : g_1062 < (v_1057.alloc (.cells #[] 3)).heap.size := by rw [hg_1062]; simp
           have hnw := Rw.new v_1057 #[] 3 1 0 rfl (by decide)
           obtain ⟨v_1061, hw⟩ : ∃ x, x = v_1057.alloc (.cells #[] 3) := ⟨_, rfl⟩
           rw [← hw] at hbN hsz hnw ⊢
           rw [← hg_1062] at hnw ⊢
           have Gg_1062 := Lib.hid (show wr.heap.size ≤ g_1062 ∧ g_1062 < v_1061.heap.size from ⟨by have := hHeld.size; omega, hsz⟩)
           have hfN : Fr (fun x => wr.heap.size ≤ x) v_1057 v_1061 := Fr.of_below hbN
           have E_1063 := Lib.hid (show Rn v_1061 (some ⟨g_1062, 0, none⟩) 3 1 0 0 [] from .inr ⟨g_1062, rfl, hnw⟩)
           have X_1064 := Lib.hid (X_1059.out.fr (Fr.of_below hbN : Fr (fun _ => False) _ _) (fun _ _ _ _ h => h))
           have D_1065 := Lib.hid (show ¬ g_1058 = g_1062 from by have := Gg_1058.out; omega)
           clear X_1059
           clear hbN hw hnw hsz hg_1062
           have hHeld := hHeld.trans hfN
           have hz_1066 := hfN.size
           refine hK.out _ _ hHeld fun _ => ?_
           clear hK K hfN
           try simp only [Act.put,sA,sB,sC]
           refine rW (i := 2) (d := some 127) rfl fun K hK => ?_
           refine wp_appI13 (.tmp 125) (.tmp 126) rfl rfl E_1063.out Al ql cl l rfl (Xb39.out.fr hHeld (fun bb oo hn hA h => by have h : wr.heap.size ≤ bb := h; have := Xb39.out.lt (by decide) hn hA; omega)) ql (by omega) (by omega) ?_
           intro A_1069 c_1070 v_1067 hE hfE hoE
           have hfN : Fr (fun x => wr.heap.size ≤ x) v_1061 v_1067 := hfE.mono (fun bb hb => by obtain ⟨oo, hb⟩ := hb; injection hb with hb; injection hb with hb _; have := Gg_1062.out; show wr.heap.size ≤ bb; omega)
           have BB_1071 := Lib.hid (show ∀ bb, Bk A_1069 bb → wr.heap.size ≤ bb from fun bb hb => by
            obtain ⟨oo, hb⟩ := hb
            have h1 := Gg_1062.out
            have h2 := hHeld.size
            rcases hoE with h | h
            ·rw [h] at hb; injection hb with hb; injection hb with hb _; omega
            ·rw [h] at hb; injection hb with hb; injection hb with hb _; omega)
           have E_1068 := Lib.hid (show Rn v_1067 A_1069 3 1 ql c_1070 (ncells l) from hE)
           have hN4 := D_1065.out
           have X_1072 := Lib.hid (X_1064.out.fr hfE (fun bb oo _ hA h => by obtain ⟨o2, h⟩ := h; injection hA with hA; injection hA with hA _; injection h with h; injection h with h _; omega))
           clear hN4 X_1064
           clear E_1063 hE hfE hoE
           have hHeld := hHeld.trans hfN
           have hz_1073 := hfN.size
           refine hK.out _ _ hHeld fun _ => ?_
           clear hK K hfN
           try simp only [Act.put,sA,sB,sC]
           refine rW (i := 5) (d := some 130) rfl fun K hK => ?_
           refine wp_appI13 (.tmp 127) (.tmp 129) rfl rfl E_1068.out (some ⟨g_1058, 0, none⟩) 1 1 [t] rfl X_1072.out (ql + 1) rfl (by omega) ?_
           intro A_1076 c_1077 v_1074 hE hfE hoE
           have hfN : Fr (fun x => wr.heap.size ≤ x) v_1067 v_1074 := hfE.mono (fun bb hb => BB_1071.out bb hb)
           have hE := hE.sl
           rw [show ncells l ++ ncells [t] = icells ((l ++ [t]).map fun (x : Nat) => (x : Int)) from by simp [ncells, icells]] at hE
           have E_1075 := Lib.hid hE
           clear E_1068 X_1072 hE hfE hoE
           have hHeld := hHeld.trans hfN
           have hz_1078 := hfN.size
           refine hK.out _ _ hHeld fun _ => ?_
           clear hK K hfN
           try simp only [Act.put,sA,sB,sC]
           refine rW (i := 10) (d := some 135) rfl fun K hK => ?_
           go_simp
           have hds := distinct13_any A_1076 (ql + 1) c_1077 ((l ++ [t]).map fun (x : Nat) => (x : Int)) n ((M : Int) + 1) (by omega) (by have := HK.out; omega) (by omega) (by omega) v_1074 E_1075.out
           rw [← HZL.out] at hds
           refine hds.mono ?_; clear hds; rintro e v_1079 ⟨Az_, cz_, rfl, -, hbN, -⟩
           rw [← HLZ.out]
           have hfN : Fr (fun x => wr.heap.size ≤ x) v_1074 v_1079 := Fr.of_below hbN
           clear hbN E_1075
           go_wp2_with fail
           have hHeld := hHeld.trans hfN
           have hz_1080 := hfN.size
           refine hK.out _ _ hHeld fun _ => ?_
           clear hK K hfN
           try simp only [Act.put,sA,sB,sC]
           refine tL (i := 11) (d := some 136) (v := ?vg11_1081) rfl ?yg11_1081 hHeld ?rg11_1081
           case yg11_1081 =>
            intro wq hSw
            (try dsimp only at hSw)
            go_simp <;> with_reducible rfl
           try simp only [Act.put,sA,sB,sC]
           refine tL (i := 14) (d := some 139) (v := ?vg14_1082) rfl ?yg14_1082 hHeld ?rg14_1082
           case yg14_1082 =>
            intro wq hSw
            (try dsimp only at hSw)
            go_simp <;> with_reducible rfl
           try simp only [Act.put,sA,sB,sC]
           refine tD ?_
           have hbq : Below wr.heap.size wr v_1079 := hHeld.belowAll (fun _ h => h)
           obtain ⟨wq, hwq⟩ : ∃ x, x = v_1079 := ⟨_, rfl⟩
           rw [← hwq] at hbq ⊢
           clear hwq hHeld
           have Lb40 := Lib.hid (Lb36.out.later DK hbq)
           have Rb41 := Lib.hid (show Geo13 wq w.heap.size (K : Int) (M : Int) (N : Int) from (hbq.block _ (block_lt Rb37.out)).trans Rb37.out)
           have Rb42 := Lib.hid (show Rf13 wq Br 3 (p : Int) (gen : Int) from (hbq.block _ (block_lt Rb38.out)).trans Rb38.out)
           have Xb43 := Lib.hid (show Sl wq 1 Al ql cl (ncells l) from Xb39.out.below hbq (Nat.le_refl _))
           clear Lb36 Rb37 Rb38 Xb39
           have HQ := Lib.hid (HBR.out.trans (hbq.mono HBR.out.size))
           clear hbq
           go_wp2_with fail
           have hcp := arcopy_any DK Lb40.out.ac.a (Lb40.out.ac.wl.mono13 (by decide)) (by rw [Lb40.out.ac.len]; have := HK.out; omega)
           refine hcp.mono ?_; clear hcp; rintro e wc hcp
           obtain ⟨Az, Sz, rfl, hLz, hbz, hSz⟩ := Lb40.out.copied hcp
           have LZ := Lib.hid hLz
           have HSz := Lib.hid hSz
           have RZ := Lib.hid (show Rf13 wc Br 3 (p : Int) (gen : Int) from (hbz.block _ (block_lt Rb42.out)).trans Rb42.out)
           have HRz := Lib.hid (show Br < wq.heap.size from block_lt Rb42.out)
           have HQ2 := Lib.hid (HQ.out.trans (hbz.mono HQ.out.size))
           have HQS := Lib.hid (show w8.heap.size ≤ wq.heap.size ∧ wq.heap.size ≤ wc.heap.size from ⟨HQ.out.size, hbz.size⟩)
           clear hcp hLz hbz hSz
           have hfa := arfail_any DK LZ.out.ac.a (by rw [LZ.out.ac.len]; have := HK.out; omega) (t : Int)
           rw [tell_in (by omega) (by rw [LZ.out.ac.len, ← Hn.out]; omega)] at hfa
           go_wp2_with fail
           refine hfa.mono ?_; clear hfa; rintro e wf ⟨rfl, hm⟩
           have hst := Tc.out.fail (d := t) (by rw [← Hn.out]; exact hlt)
           obtain ⟨Sy, hLy, hNy⟩ := LZ.out.mut hm onD_len hst.ns (onD_wl LZ.out.ac.wl (fun x _ => Nat.zero_le _))
           have LY := Lib.hid hLy
           have RY := Lib.hid (show Rf13 wf Br 3 (p : Int) (gen : Int) from hNy.1.row_some RZ.out (fun q => by have := HSz.out _ q; have := HRz.out; omega))
           have HQ3 := Lib.hid (HQ2.out.trans (hNy.1.below (by have := HQS.out; omega) (fun bb hb => by have := HSz.out bb hb; have := HQS.out; omega)))
           have HCN := Lib.hid (show ¬ K ≤ cntG (K + M) (fun e => if e = t then false else !l.contains e) from by
            have h1 := cntG_one (Hn.out ▸ HDl.out) (d := t) (by rw [← Hn.out]; exact hlt) hmem
            have h2 := HQM.out
            have h3 := HQLl.out
            omega)
           have TY := Lib.hid hst
           clear hm hst hLy hNy
           go_wp2_with (first
            | (refine at_dst11 (d := 148) ?_; refine wpList_step11 (o := ⟨some 148, _, _, _, _, _⟩) rfl _ wf (step_ref13 (x := .tmp 17) rfl rfl RY.out) ?_))
           have hg := SK.get LY.out.ac HRo.out HPNp.out TY.out
           rw [if_neg HCN.out, if_neg HCN.out] at hg
           refine hg.mono ?_; clear hg; rintro e wg ⟨Ag, ng2, cg, rfl, hsg, hbg, -⟩
           obtain rfl : ng2 = 0 := by have := hsg.len; rw [cells_length, Nat.mul_one] at this; exact this.symm
           have HQ4 := Lib.hid (HQ3.out.trans (hbg.mono HQ3.out.size))
           clear hsg hbg
           go_wp2_with fail
           go_roundw
           case rel => exact ⟨t + 1, by omega, by go_num, HQ4.out⟩
           case measure => simp [intOf]; omega
        ·obtain rfl : n = t := by omega
         have B9 := Lib.hid Lb36.out.bel
         go_wp2_with fail
         refine (holds13_any DK SK wr (HN.out.keep B9.out)).mono ?_; rintro e wz ⟨rfl, hbz⟩
         have BZ := Lib.hid (B9.out.trans (hbz.mono B9.out.size))
         clear hbz
         go_wp2_with fail
         go_ret
         exact ⟨rfl, BZ.out⟩
     ·have z : (30 : Int) < (ng : Int) := by omega
      have hw : wrap64 (44 * (K : Int)) = 44 * (K : Int) := by have := G0.out.2.2.1; have := G0.out.1; unfold wrap64; omega
      go_wp2_with fail
      refine (holds13_any DK SK w1 (HN.out.keep B1.out)).mono ?_; rintro e wz ⟨rfl, hbz⟩
      have BZ := Lib.hid (B1.out.trans (hbz.mono B1.out.size))
      clear hbz
      go_wp2_with fail
      go_ret
      exact ⟨rfl, BZ.out⟩
    ·have z : 44 * (K : Int) < (nb : Int) := by omega
     have hw : wrap64 (44 * (K : Int)) = 44 * (K : Int) := by have := G0.out.2.2.1; have := G0.out.1; unfold wrap64; omega
     go_wp2_with fail
     refine (holds13_any DK SK w1 (HN.out.keep B1.out)).mono ?_; rintro e wz ⟨rfl, hbz⟩
     have BZ := Lib.hid (B1.out.trans (hbz.mono B1.out.size))
     clear hbz
     go_wp2_with fail
     go_ret
     exact ⟨rfl, BZ.out⟩
   ·have z : (N : Int) ≤ place := by omega
    have hw : wrap64 (44 * (K : Int)) = 44 * (K : Int) := by have := G0.out.2.2.1; have := G0.out.1; unfold wrap64; omega
    go_wp2_with fail
    refine (holds13_any DK SK w1 (HN.out.keep B1.out)).mono ?_; rintro e wz ⟨rfl, hbz⟩
    have BZ := Lib.hid (B1.out.trans (hbz.mono B1.out.size))
    clear hbz
    go_wp2_with fail
    go_ret
    exact ⟨rfl, BZ.out⟩
  ·have z : place < 0 := by omega
   have hw : wrap64 (44 * (K : Int)) = 44 * (K : Int) := by have := G0.out.2.2.1; have := G0.out.1; unfold wrap64; omega
   go_wp2_with fail
   refine (holds13_any DK SK w1 (HN.out.keep B1.out)).mono ?_; rintro e wz ⟨rfl, hbz⟩
   have BZ := Lib.hid (B1.out.trans (hbz.mono B1.out.size))
   clear hbz
   go_wp2_with fail
   go_ret
   exact ⟨rfl, BZ.out⟩
 ·rw [decide_eq_false g0] at hsmall
  go_enter Tryz.func3, Tryz.ntmps3
  go_wp2_with fail
  refine (hsmall _).mono ?_; rintro e w1 ⟨rfl, hb1⟩
  have B1 := Lib.hid (Hgeo.out.trans (hb1.mono Hgeo.out.size))
  clear hb1
  go_wp2_with fail
  refine (holds13_any DK SK w1 (HN.out.keep B1.out)).mono ?_; rintro e wz ⟨rfl, hbz⟩
  have BZ := Lib.hid (B1.out.trans (hbz.mono B1.out.size))
  clear hbz
  go_wp2_with fail
  go_ret
  exact ⟨rfl, BZ.out⟩
end
end Go.Proofs.YtajdholblmdnjaaGreatDoor
