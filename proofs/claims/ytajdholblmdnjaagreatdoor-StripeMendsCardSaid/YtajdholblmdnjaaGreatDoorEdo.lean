/-
  StripeMends over StrK: it returns true, whatever its arguments. (Written by gen_edo.py.)
-/
import Derived.Test.YtajdholblmdnjaaGreatDoorEdl
import Derived.Deep.RegionHeld3
set_option linter.unusedVariables false
set_option maxRecDepth 100000
set_option maxHeartbeats 6400000
namespace Go.Proofs.YtajdholblmdnjaaGreatDoor
open Go.RowKit Go.Proofs
section
variable {Rep : World → (Nat → Prop) → Nat → Dv → Prop}
theorem stripeMends_any (DK : DrvK Rep) (SK : StrK Rep) (k m s : Int) (A0 : Option Addr) (c0 : Nat) (b : List UInt8) (place : Int) (A1 : Option Addr) (c1 : Nat) (gone : List Int) (A2 : Option Addr) (c2 : Nat) (again : List Int) (off : Int) (mask : Nat) (w : World)
  (bk : -9223372036854775808 ≤ k ∧ k < 9223372036854775808) (bm : -9223372036854775808 ≤ m ∧ m < 9223372036854775808) (bs : -9223372036854775808 ≤ s ∧ s < 9223372036854775808) (bp : -9223372036854775808 ≤ place ∧ place < 9223372036854775808) (bo : -9223372036854775808 ≤ off ∧ off < 9223372036854775808) (bmk : mask < 4294967296)
  (hs0 : Sl w 1 A0 b.length c0 (cells b)) (hs1 : Sl w 1 A1 gone.length c1 (icells gone)) (hs2 : Sl w 1 A2 again.length c2 (icells again)) (hN : Nt w) :
  Calls Tryz.prog 4 #[.agg #[.int .i64 k, .int .i64 m, .int .i64 s], .slice A0 b.length c0, .int .i64 place, .slice A1 gone.length c1, .slice A2 again.length c2, .int .i64 off, .int .u32 (mask : Int)] w (SaysTrue w) := by
 obtain ⟨nb, hnb⟩ : ∃ nb, nb = b.length := ⟨_, rfl⟩
 rw [← hnb] at hs0 ⊢
 obtain ⟨ng, hng⟩ : ∃ ng, ng = gone.length := ⟨_, rfl⟩
 rw [← hng] at hs1 ⊢
 obtain ⟨na, hna⟩ : ∃ na, na = again.length := ⟨_, rfl⟩
 rw [← hna] at hs2 ⊢
 have HNB := Lib.hid hnb
 have HS0 := Lib.hid hs0
 clear hnb hs0
 have HNG := Lib.hid hng
 have HS1 := Lib.hid hs1
 clear hng hs1
 have HNA := Lib.hid hna
 have HS2p := Lib.hid hs2
 clear hna hs2
 have HN := Lib.hid hN
 clear hN
 have hsmall := fun w => small13_any k m s bk bm bs w
 have Hgeo := Lib.hid (geo_below w k m s)
 have hrow := heap_alloc_new w (.cells #[.int .i64 k, .int .i64 m, .int .i64 s] 23)
 have Hrow := Lib.hid hrow
 clear hrow
 by_cases g0 : Small13 k m s
 ·rw [decide_eq_true g0] at hsmall
  obtain ⟨K, rfl⟩ : ∃ K : Nat, k = (K : Int) := ⟨k.toNat, by have := g0.1; omega⟩
  obtain ⟨M, rfl⟩ : ∃ M : Nat, m = (M : Int) := ⟨m.toNat, by have := g0.2.1; omega⟩
  obtain ⟨N, rfl⟩ : ∃ N : Nat, s = (N : Int) := ⟨s.toNat, by have := g0.2.2.2.1; omega⟩
  have G0 := Lib.hid g0
  clear g0 bk bm bs
  go_enter Tryz.func4, Tryz.ntmps4
  go_wp2_with fail
  refine (hsmall _).mono ?_; clear hsmall; rintro e w1 ⟨rfl, hb1⟩
  have hr1 : Geo13 w1 w.heap.size (K : Int) (M : Int) (N : Int) := (hb1.block _ (block_lt Hrow.out)).trans Hrow.out
  have a0 := hr1.c0
  have a2 := hr1.c2
  have B1 := Lib.hid (Hgeo.out.trans (hb1.mono Hgeo.out.size))
  have R1 := Lib.hid hr1
  clear hb1 hr1
  by_cases q1 : 0 ≤ place
  ·by_cases q2 : place < (N : Int)
   ·by_cases q3 : (nb : Int) ≤ 44 * (K : Int)
    ·by_cases q4 : (ng : Int) ≤ 30
     ·by_cases q5 : (na : Int) ≤ 30
      ·have hw : wrap64 (44 * (K : Int)) = 44 * (K : Int) := by have := G0.out.2.2.1; have := G0.out.1; unfold wrap64; omega
       go_wp2_with (first
        | (refine at_dst11 (d := 64) ?_; refine wpList_step11 (o := ⟨some 64, _, _, _, _, _⟩) rfl _ w1 (step_geo13 (x := .tmp 7) rfl rfl R1.out) ?_))
       obtain ⟨p, rfl⟩ : ∃ p : Nat, place = (p : Int) := ⟨place.toNat, by omega⟩
       refine (made13_any DK K M N (by have := G0.out.1; omega) (by have := G0.out.2.1; omega) (by have := G0.out.2.2.1; omega) (by have := G0.out.2.2.2.1; omega) (by have := G0.out.2.2.2.2; omega) w1).mono ?_; intro e w2 hm
       obtain ⟨A, S2, C, F, T, rfl, hL, hS2, hbel⟩ := Lc13.made hm B1.out (HN.out.keep B1.out)
       have hr2 : Geo13 w2 w.heap.size (K : Int) (M : Int) (N : Int) := (hbel.block _ (block_lt R1.out)).trans R1.out
       have hz1 := block_lt R1.out
       obtain ⟨n, hn⟩ : ∃ n, n = K + M := ⟨_, rfl⟩
       have Hn := Lib.hid hn
       have HS2 := Lib.hid hS2
       have L2 := Lib.hid hL
       have hnZ : ¬ S2 w.heap.size := fun q => by have := HS2.out _ q; omega
       have HnZ := Lib.hid hnZ
       have RG := Lib.hid hr2
       clear hm a0 a2 hL hS2 hbel hr2 hz1 hnZ hn hw
       have HK := Lib.hid (show 1 ≤ K ∧ 1 ≤ M ∧ K + M ≤ 10 from ⟨by have := G0.out.1; omega, by have := G0.out.2.1; omega, by have := G0.out.2.2.1; omega⟩)
       have HOF := Lib.hid (show -9223372036854775808 ≤ off ∧ off < 9223372036854775808 ∧ mask < 4294967296 from ⟨bo.1, bo.2, bmk⟩)
       obtain ⟨o60, ho60⟩ : ∃ o : Nat, max 0 (min off 60) = (o : Int) ∧ o ≤ 60 := ⟨(max 0 (min off 60)).toNat, by omega, by omega⟩
       have HO60 := Lib.hid ho60
       clear ho60 bo bmk
       have HPNp := Lib.hid (show p < N by omega)
       have HRo := Lib.hid (show RefOk 3 p 77 b.length (44 * K) from ⟨by decide, by decide, by have := G0.out.2.2.2.2; omega, by decide, by have := HNB.out; omega, by have := G0.out.2.2.1; have := G0.out.2.1; omega⟩)
       have HND := Lib.hid (show ng ≤ 30 ∧ na ≤ 30 by omega)
       have a0 := Geo13.c0 RG.out
       have a1 := Geo13.c1 RG.out
       clear q1 q2 q3 q4 q5
       have hwn : wrap64 ((K : Int) + (M : Int)) = (n : Int) := by have := Hn.out; have := HK.out; unfold wrap64; omega
       go_wp2_with fail
       rw [hwn]
       clear a0 a1 hwn
       have hb : Below w2.heap.size w2 (w2.alloc (.cells #[.int .u8 3, .int .i64 (p : Int), .int .u64 77] 34)) := (Below.refl _ _).alloc (Nat.le_refl _) _
       have hrr : Rf13 (w2.alloc (.cells #[.int .u8 3, .int .i64 (p : Int), .int .u64 77] 34)) w2.heap.size 3 (p : Int) 77 := heap_alloc_new w2 _
       obtain ⟨w3, hw3⟩ : ∃ x, x = (w2.alloc (.cells #[.int .u8 3, .int .i64 (p : Int), .int .u64 77] 34)) := ⟨_, rfl⟩
       rw [← hw3] at hb hrr ⊢
       obtain ⟨Br, hBr⟩ : ∃ B, B = w2.heap.size := ⟨_, rfl⟩
       rw [← hBr] at hrr ⊢
       have NR := Lib.hid (show ¬ S2 Br from fun q => by have := L2.out.ac.a.old q; omega)
       have RR := Lib.hid hrr
       have Lm1 := Lib.hid (L2.out.later DK hb)
       have Rm2 := Lib.hid (show Geo13 w3 w.heap.size (K : Int) (M : Int) (N : Int) from (hb.block _ (block_lt RG.out)).trans RG.out)
       clear L2 RG
       clear hrr hb hw3 hBr
       have hp := SK.put 3 p 77 b A0 c0 Lm1.out.ac HRo.out HPNp.out (HNB.out ▸ (HS0.out.below Lm1.out.bel (Nat.le_refl _))) (fun bb o hn hA q => by have := HS0.out.lt (by decide) (by rw [HNB.out]; exact hn) hA; have := Lm1.out.lo _ q; omega)
       have hst := Str.put (p := p) (N := N) (kd := 3) (g := 77) (k := K) (b := b) Lm1.out.ac.len Lm1.out.ac.n HK.out.1 HRo.out HPNp.out
       rw [cntG_all (n := K + M) live_new13, ← HNB.out, ← Hn.out] at hp
       refine hp.mono ?_; clear hp; rintro e w4 ⟨rfl, hm⟩
       rw [Hn.out] at hm
       have hstt := hst.congr (H := fun _ => true) live_new13
       have hgo := putAll_gone0 (k := K) (n := K + M) (kd := 3) (p := p) (g := 77) (b := b) (new_gone (n := K + M) (N := N))
       have hwl := Wl.mono13 (putAll_wl (c := 0) (k := K) (n := K + M) (kd := 3) (p := p) (g := 77) (b := b) (Idle.new (n := K + M) (N := N)).wl0) (show 0 + 1 ≤ 500 by decide)
       obtain ⟨Sm3, hLm4, hNm5⟩ := Lm1.out.mut hm (hst.len.trans (List.length_replicate ..).symm) hst.ns (hwl.mono13 (by decide))
       have Lm6 := Lib.hid hLm4
       clear hLm4
       have Rm7 := Lib.hid (show Geo13 w4 w.heap.size (K : Int) (M : Int) (N : Int) from hNm5.1.row_some Rm2.out HnZ.out)
       have NSm8 := Lib.hid (show ¬ Sm3 w.heap.size from fun q => (hNm5.2 _ q).elim HnZ.out (fun q => by have := block_lt Rm2.out; omega))
       have Rm9 := Lib.hid (show Rf13 w4 Br 3 (p : Int) 77 from hNm5.1.row_some RR.out NR.out)
       have NSm10 := Lib.hid (show ¬ Sm3 Br from fun q => (hNm5.2 _ q).elim NR.out (fun q => by have := block_lt RR.out; omega))
       clear hNm5 Lm1 Rm2 HnZ RR NR
       obtain ⟨xsa, hxs⟩ : ∃ x, x = putAll K (K + M) 3 p 77 b (List.replicate (K + M) (Dv.new N)) := ⟨_, rfl⟩
       rw [← hxs] at Lm6 hstt hgo hwl
       have Ta := Lib.hid hstt
       have GNa := Lib.hid hgo
       have WLa := Lib.hid hwl
       clear hstt hst hgo hwl hxs hm
       go_wp2_with fail
       have hfl := arflush_any DK Lm6.out.ac.a (Lm6.out.ac.wl.mono13 (by decide)) (by rw [Lm6.out.ac.len]; have := HK.out; omega)
       refine hfl.mono ?_; clear hfl; rintro e w5 ⟨rfl, hm⟩
       rw [flushN_all GNa.out, Lm6.out.ac.len, ← Hn.out]
       rw [Lm6.out.ac.len] at hm
       have hst := Ta.out.flush HPNp.out
       have hid := flushS_idle (n := K + M) Lm6.out.ac.len (fun d x h => (Ta.out.ns d x h).1)
       have hgo := flushS_gone (n := K + M) Lm6.out.ac.len GNa.out
       obtain ⟨Sm11, hLm12, hNm13⟩ := Lm6.out.mut hm flushS_len hst.ns hid.wl0
       have Lm14 := Lib.hid hLm12
       clear hLm12
       have Rm15 := Lib.hid (show Geo13 w5 w.heap.size (K : Int) (M : Int) (N : Int) from hNm13.1.row_some Rm7.out NSm8.out)
       have NSm16 := Lib.hid (show ¬ Sm11 w.heap.size from fun q => (hNm13.2 _ q).elim NSm8.out (fun q => by have := block_lt Rm7.out; omega))
       have Rm17 := Lib.hid (show Rf13 w5 Br 3 (p : Int) 77 from hNm13.1.row_some Rm9.out NSm10.out)
       have NSm18 := Lib.hid (show ¬ Sm11 Br from fun q => (hNm13.2 _ q).elim NSm10.out (fun q => by have := block_lt Rm9.out; omega))
       clear hNm13 Lm6 Rm7 NSm8 Rm9 NSm10
       obtain ⟨xsb, hxs⟩ : ∃ x, x = flushS xsa (K + M) := ⟨_, rfl⟩
       rw [← hxs] at Lm14 hst hid hgo
       have Tb := Lib.hid hst
       have IDb := Lib.hid hid
       have GNb := Lib.hid hgo
       clear hst hid hgo hxs hm
       have a1 := Geo13.c1 Rm15.out
       go_wp2_with fail
       clear a1
       have hds := distinct13_any A1 ng c1 gone n (M : Int) (by omega) (by have := HK.out; omega) (by have := Hn.out; have := HK.out; omega) (by have := HND.out; omega) w5 (HS1.out.below Lm14.out.bel (Nat.le_refl _))
       refine hds.mono ?_; clear hds; rintro e w6 ⟨Al, cl, rfl, hsl, hbd, hlo⟩
       obtain ⟨l, hl⟩ : ∃ l, l = distL n (M : Int) gone [] := ⟨_, rfl⟩
       rw [← hl] at hsl ⊢
       have HDl := Lib.hid (show Dist n l from hl ▸ distL_dist gone [] (Dist.nil n))
       have HLMl := Lib.hid (show l.length ≤ M from by have := distL_most (n := n) (most := (M : Int)) gone [] (by simp); rw [← hl] at this; omega)
       obtain ⟨ql, hql⟩ : ∃ q, q = l.length := ⟨_, rfl⟩
       rw [← hql] at hsl ⊢
       have HQLl := Lib.hid hql
       have hq10l : ql ≤ 10 := by have := HLMl.out; have := HK.out; omega
       have XLl := Lib.hid hsl
       have NXLl := Lib.hid (show ∀ b o, 0 < ql → Al = some ⟨b, o, none⟩ → ¬ Sm11 b from fun b o _ hA q => by have := hlo b o hA; have := Lm14.out.ac.a.old q; omega)
       have Lm19 := Lib.hid (Lm14.out.later DK hbd)
       have Rm20 := Lib.hid (show Geo13 w6 w.heap.size (K : Int) (M : Int) (N : Int) from (hbd.block _ (block_lt Rm15.out)).trans Rm15.out)
       have Rm21 := Lib.hid (show Rf13 w6 Br 3 (p : Int) 77 from (hbd.block _ (block_lt Rm17.out)).trans Rm17.out)
       clear Lm14 Rm15 Rm17
       clear hsl hlo hbd hl hql
       go_wp2_with fail
       have hhu := hurt_any DK ⟨Lm19.out.ac.a, Lm19.out.lo, Lm19.out.bel⟩ (by rw [Lm19.out.ac.len]; have := HK.out; omega) Al cl l (HQLl.out ▸ XLl.out) (fun d hd => by rw [Lm19.out.ac.len, ← Hn.out]; exact HDl.out.lt d hd) (HQLl.out ▸ NXLl.out) (by have := HQLl.out; omega) (p : Int) off mask (by omega) (by omega) HOF.out.1 HOF.out.2.1 HOF.out.2.2
       rw [← HQLl.out] at hhu
       refine hhu.mono ?_; clear hhu; rintro e w7 ⟨rfl, Scx, hla, hnx⟩
       rw [HO60.out.1] at hla
       have hst := Tb.out.hurtAll IDb.out HK.out.1 HRo.out HPNp.out (off := o60) (mask := max 1 mask) HO60.out.2 (by omega) (by have := HOF.out; omega) (Hn.out ▸ HDl.out) (fun d _ => rfl)
       rw [← HQLl.out] at hst
       have hid := hurtT_idle (p := (p : Int)) (off := (o60 : Int)) (mask := max 1 mask) (l := l) IDb.out ql
       have hm : MutA Rep Sm11 A (hurtT (p : Int) (o60 : Int) (max 1 mask) l xsb ql) w6 w7 := ⟨Scx, hla.ap, hnx⟩
       clear hla hnx
       obtain ⟨Sm22, hLm23, hNm24⟩ := Lm19.out.mut hm (hurtT_len _) hst.ns hid.wl0
       have Lm25 := Lib.hid hLm23
       clear hLm23
       have Rm26 := Lib.hid (show Geo13 w7 w.heap.size (K : Int) (M : Int) (N : Int) from hNm24.1.row_some Rm20.out NSm16.out)
       have NSm27 := Lib.hid (show ¬ Sm22 w.heap.size from fun q => (hNm24.2 _ q).elim NSm16.out (fun q => by have := block_lt Rm20.out; omega))
       have Rm28 := Lib.hid (show Rf13 w7 Br 3 (p : Int) 77 from hNm24.1.row_some Rm21.out NSm18.out)
       have NSm29 := Lib.hid (show ¬ Sm22 Br from fun q => (hNm24.2 _ q).elim NSm18.out (fun q => by have := block_lt Rm21.out; omega))
       have Xm30 := Lib.hid (show Sl w7 1 Al ql cl (ncells l) from XLl.out.fr hNm24.1 NXLl.out)
       have NXm31 := Lib.hid (show ∀ b o, 0 < ql → Al = some ⟨b, o, none⟩ → ¬ Sm22 b from fun b o hn hA q => (hNm24.2 _ q).elim (NXLl.out b o hn hA) (fun q => by have := XLl.out.lt (by decide) hn hA; omega))
       clear hNm24 Lm19 Rm20 NSm16 Rm21 NSm18 XLl NXLl
       obtain ⟨xsc, hxs⟩ : ∃ x, x = hurtT (p : Int) (o60 : Int) (max 1 mask) l xsb ql := ⟨_, rfl⟩
       rw [← hxs] at Lm25 hst hid
       have Tc := Lib.hid hst
       have IDc := Lib.hid hid
       have HCc := Lib.hid (show K ≤ cntG (K + M) (fun e => !l.contains e) from by
        have h1 := cntG_less HDl.out
        have h2 := HLMl.out
        have h3 := Hn.out
        rw [h3] at h1
        omega)
       clear hst hid hxs hm
       go_wp2_with fail
       have hpl : p < N := HPNp.out
       have hn10 : n ≤ 10 := by have := Hn.out; have := HK.out; omega
       go_loopw [22] (fun i wr => ∃ (t : Nat) (S' : Nat → Prop), t ≤ n ∧ i = .int .i64 (t : Int) ∧ Lc13 Rep w wr S' A C K M F T N (replT xsc t) ∧ Nxt Sm22 S' w7 wr) (fun i _ => n - (intOf i).toNat)
       case atStart => exact ⟨0, Sm22, by omega, rfl, by rw [replT, upTo_zero]; exact Lm25.out, Nxt.refl _ _⟩
       case round =>
        obtain ⟨t, S9, ht, rfl, hL9, hN9⟩ := hrel
        have L9 := Lib.hid hL9
        have N9 := Lib.hid hN9
        clear hL9 hN9
        by_cases hlt : t < n
        ·have hti : (t : Int) < (n : Int) := by omega
         have hlc : xsc.length = n := by rw [Tc.out.len, Hn.out]
         obtain ⟨x, hx⟩ : ∃ x, xsc[t]? = some x := ⟨_, List.getElem?_eq_getElem (by rw [hlc]; exact hlt)⟩
         have hda := ardead_any DK L9.out.ac.a (by rw [replT_len, hlc]; omega) (t : Int)
         rw [tellD_yes (replT_here hx)] at hda
         have Hx := Lib.hid hx
         have Hlc := Lib.hid hlc
         clear hx hlc
         cases hg : x.gone
         ·rw [hg] at hda
          have Hnx := Lib.hid (replT_no Hx.out hg)
          go_wp2_with fail
          refine hda.mono ?_; clear hda; rintro e w8 ⟨rfl, hb⟩
          have L10 := Lib.hid (L9.out.later DK hb)
          have N10 := Lib.hid (N9.out.later hb)
          rw [Hnx.out] at L10
          clear hb
          go_wp2_with fail
          go_roundw
          case rel => exact ⟨t + 1, S9, by omega, by go_num, L10.out, N10.out⟩
          case measure => simp [intOf]; omega
         ·rw [hg] at hda
          have Hnx := Lib.hid (replT_yes Hx.out hg)
          go_wp2_with fail
          refine hda.mono ?_; clear hda; rintro e w8 ⟨rfl, hb⟩
          have L10 := Lib.hid (L9.out.later DK hb)
          have N10 := Lib.hid (N9.out.later hb)
          clear hb
          have hra := arreplace_any DK L10.out.ac.a (by rw [replT_len, Hlc.out]; omega) (t : Int)
          rw [tell_in (by omega) (by rw [replT_len, Hlc.out]; omega), Hnx.out] at hra
          go_wp2_with fail
          refine hra.mono ?_; clear hra; rintro e w9 ⟨rfl, hm⟩
          obtain ⟨S11, hL11, hN11⟩ := L10.out.mut hm (by rw [replT_len, replT_len]) (Tc.out.repl1 HPNp.out (t + 1)).ns (replT_idle IDc.out (t + 1)).wl0
          have L11 := Lib.hid hL11
          have N11 := Lib.hid (N10.out.trans hN11)
          clear hm hL11 hN11
          go_wp2_with fail
          go_roundw
          case rel => exact ⟨t + 1, S11, by omega, by go_num, L11.out, N11.out⟩
          case measure => simp [intOf]; omega
        ·obtain rfl : n = t := by omega
         have hN12 := N9.out
         have Rm32 := Lib.hid (show Geo13 wr w.heap.size (K : Int) (M : Int) (N : Int) from hN12.1.row_some Rm26.out NSm27.out)
         have NSm33 := Lib.hid (show ¬ S9 w.heap.size from fun q => (hN12.2 _ q).elim NSm27.out (fun q => by have := block_lt Rm26.out; omega))
         have Rm34 := Lib.hid (show Rf13 wr Br 3 (p : Int) 77 from hN12.1.row_some Rm28.out NSm29.out)
         have NSm35 := Lib.hid (show ¬ S9 Br from fun q => (hN12.2 _ q).elim NSm29.out (fun q => by have := block_lt Rm28.out; omega))
         have Xm36 := Lib.hid (show Sl wr 1 Al ql cl (ncells l) from Xm30.out.fr hN12.1 NXm31.out)
         have NXm37 := Lib.hid (show ∀ b o, 0 < ql → Al = some ⟨b, o, none⟩ → ¬ S9 b from fun b o hn hA q => (hN12.2 _ q).elim (NXm31.out b o hn hA) (fun q => by have := Xm30.out.lt (by decide) hn hA; omega))
         clear hN12 Lm25 Rm26 NSm27 Rm28 NSm29 Xm30 NXm31
         have htd := Tc.out.repl1 HPNp.out n
         have hid := replT_idle IDc.out n
         have hgd := replT_live (n := n) (by rw [Tc.out.len, Hn.out])
         obtain ⟨xsd, hxs⟩ : ∃ x, x = replT xsc n := ⟨_, rfl⟩
         rw [← hxs] at L9 htd hid hgd
         have Td := Lib.hid htd
         have IDd := Lib.hid hid
         have GNd := Lib.hid hgd
         have hct : cntG (K + M) (fun d => !(fun e => !l.contains e) d && liveG xsd d) = ql := by
          rw [HQLl.out, ← cntG_in HDl.out, Hn.out]
          refine cntG_congr fun d hd => ?_
          rw [live_all hgd (by rw [htd.len]; exact hd)]
          simp
         have HCT := Lib.hid hct
         clear htd hid hgd hxs hct hpl ht
         go_wp2_with (first
          | (refine at_dst11 (d := 119) ?_; refine wpList_step11 (o := ⟨some 119, _, _, _, _, _⟩) rfl _ wr (step_ref13 (x := .tmp 18) rfl rfl Rm34.out) ?_))
         have hme := SK.mend L9.out.ac HRo.out HPNp.out Td.out HCc.out
         rw [HCT.out] at hme
         refine hme.mono ?_; clear hme; rintro e w13 ⟨rfl, hm⟩
         have hm : MutA Rep S9 A (mendAll K (K + M) 3 p 77 b (fun e => !l.contains e) xsd) wr w13 := hm
         have hst := Td.out.mended HPNp.out HK.out.1 HRo.out GNd.out
         have hgo := mendAll_gone (k := K) (n := K + M) (kd := 3) (p := p) (g := 77) (b := b) (G := fun e => !l.contains e) Td.out.len GNd.out Td.out.ns HPNp.out
         have hwl := Wl.mono13 (mendAll_wl (k := K) (n := K + M) (kd := 3) (p := p) (g := 77) (b := b) (G := fun e => !l.contains e) (IDd.out.wl0 (c := 0))) (show 0 + 1 ≤ 1000 by decide)
         obtain ⟨Sm38, hLm39, hNm40⟩ := L9.out.mut hm mendAll_len hst.ns hwl
         have Lm41 := Lib.hid hLm39
         clear hLm39
         have Rm42 := Lib.hid (show Geo13 w13 w.heap.size (K : Int) (M : Int) (N : Int) from hNm40.1.row_some Rm32.out NSm33.out)
         have NSm43 := Lib.hid (show ¬ Sm38 w.heap.size from fun q => (hNm40.2 _ q).elim NSm33.out (fun q => by have := block_lt Rm32.out; omega))
         have Rm44 := Lib.hid (show Rf13 w13 Br 3 (p : Int) 77 from hNm40.1.row_some Rm34.out NSm35.out)
         have NSm45 := Lib.hid (show ¬ Sm38 Br from fun q => (hNm40.2 _ q).elim NSm35.out (fun q => by have := block_lt Rm34.out; omega))
         have Xm46 := Lib.hid (show Sl w13 1 Al ql cl (ncells l) from Xm36.out.fr hNm40.1 NXm37.out)
         have NXm47 := Lib.hid (show ∀ b o, 0 < ql → Al = some ⟨b, o, none⟩ → ¬ Sm38 b from fun b o hn hA q => (hNm40.2 _ q).elim (NXm37.out b o hn hA) (fun q => by have := Xm36.out.lt (by decide) hn hA; omega))
         clear hNm40 L9 Rm32 NSm33 Rm34 NSm35 Xm36 NXm37
         obtain ⟨xse, hxs⟩ : ∃ x, x = mendAll K (K + M) 3 p 77 b (fun e => !l.contains e) xsd := ⟨_, rfl⟩
         rw [← hxs] at Lm41 hst hgo
         have Te := Lib.hid hst
         have GNe := Lib.hid hgo
         clear hst hgo hwl hxs hm
         go_wp2_with fail
         have hfl := arflush_any DK Lm41.out.ac.a (Lm41.out.ac.wl.mono13 (by decide)) (by rw [Lm41.out.ac.len]; have := HK.out; omega)
         refine hfl.mono ?_; clear hfl; rintro e w14 ⟨rfl, hm⟩
         rw [flushN_all GNe.out, Lm41.out.ac.len, ← Hn.out]
         rw [Lm41.out.ac.len] at hm
         have hst := Te.out.flush HPNp.out
         have hid := flushS_idle (n := K + M) Lm41.out.ac.len (fun d x h => (Te.out.ns d x h).1)
         have hgo := flushS_gone (n := K + M) Lm41.out.ac.len GNe.out
         obtain ⟨Sm48, hLm49, hNm50⟩ := Lm41.out.mut hm flushS_len hst.ns hid.wl0
         have Lm51 := Lib.hid hLm49
         clear hLm49
         have Rm52 := Lib.hid (show Geo13 w14 w.heap.size (K : Int) (M : Int) (N : Int) from hNm50.1.row_some Rm42.out NSm43.out)
         have NSm53 := Lib.hid (show ¬ Sm48 w.heap.size from fun q => (hNm50.2 _ q).elim NSm43.out (fun q => by have := block_lt Rm42.out; omega))
         have Rm54 := Lib.hid (show Rf13 w14 Br 3 (p : Int) 77 from hNm50.1.row_some Rm44.out NSm45.out)
         have NSm55 := Lib.hid (show ¬ Sm48 Br from fun q => (hNm50.2 _ q).elim NSm45.out (fun q => by have := block_lt Rm44.out; omega))
         have Xm56 := Lib.hid (show Sl w14 1 Al ql cl (ncells l) from Xm46.out.fr hNm50.1 NXm47.out)
         have NXm57 := Lib.hid (show ∀ b o, 0 < ql → Al = some ⟨b, o, none⟩ → ¬ Sm48 b from fun b o hn hA q => (hNm50.2 _ q).elim (NXm47.out b o hn hA) (fun q => by have := Xm46.out.lt (by decide) hn hA; omega))
         clear hNm50 Lm41 Rm42 NSm43 Rm44 NSm45 Xm46 NXm47
         obtain ⟨xsf, hxs⟩ : ∃ x, x = flushS xse (K + M) := ⟨_, rfl⟩
         rw [← hxs] at Lm51 hst hid hgo
         have Tf := Lib.hid hst
         have IDf := Lib.hid hid
         have GNf := Lib.hid hgo
         clear hst hid hgo hxs hm
         go_wp2_with (first
          | (refine at_dst11 (d := 139) ?_; refine wpList_step11 (o := ⟨some 139, _, _, _, _, _⟩) rfl _ w14 (step_ref13 (x := .tmp 18) rfl rfl Rm54.out) ?_))
         have hwh := SK.whole Lm51.out.ac HRo.out HPNp.out Tf.out
         rw [← Hn.out] at hwh
         refine hwh.mono ?_; clear hwh; rintro e w15 ⟨Aw, cw, rfl, hsw, hb, hlw⟩
         have Lm58 := Lib.hid (Lm51.out.later DK hb)
         have Rm59 := Lib.hid (show Geo13 w15 w.heap.size (K : Int) (M : Int) (N : Int) from (hb.block _ (block_lt Rm52.out)).trans Rm52.out)
         have Rm60 := Lib.hid (show Rf13 w15 Br 3 (p : Int) 77 from (hb.block _ (block_lt Rm54.out)).trans Rm54.out)
         have Xm61 := Lib.hid (show Sl w15 1 Al ql cl (ncells l) from Xm56.out.below hb (Nat.le_refl _))
         clear Lm51 Rm52 Rm54 Xm56
         have HSW := Lib.hid hsw
         clear hsw hlw hb
         go_wp2_with fail
         go_loopw [26] (fun i wr => ∃ (t : Nat), t ≤ n ∧ i = .int .i64 (t : Int) ∧ Below w15.heap.size w15 wr) (fun i _ => n - (intOf i).toNat)
         case atStart => exact ⟨0, by omega, rfl, Below.refl _ _⟩
         case round =>
          obtain ⟨t, ht, rfl, hbr⟩ := hrel
          have HBR := Lib.hid hbr
          by_cases hlt : t < n
          ·have hti : (t : Int) < (n : Int) := by omega
           obtain ⟨bw, ow, hAw, hcw⟩ := (HSW.out.below hbr (Nat.le_refl _)).at_ hlt
           subst hAw
           have hcell := hcw t (.bool true) (by
            have := bcells_get ((List.range n).map fun i => (fun _ => true) (homeN n p i)) t (by simpa using hlt)
            simpa using this)
           clear hcw hbr
           go_wp2_with fail
           go_roundw
           case rel => exact ⟨t + 1, by omega, by go_num, HBR.out⟩
           case measure => simp [intOf]; omega
          ·obtain rfl : n = t := by omega
           clear hbr
           have hb := HBR.out
           have Lm62 := Lib.hid (Lm58.out.later DK hb)
           have Rm63 := Lib.hid (show Geo13 wr w.heap.size (K : Int) (M : Int) (N : Int) from (hb.block _ (block_lt Rm59.out)).trans Rm59.out)
           have Rm64 := Lib.hid (show Rf13 wr Br 3 (p : Int) 77 from (hb.block _ (block_lt Rm60.out)).trans Rm60.out)
           have Xm65 := Lib.hid (show Sl wr 1 Al ql cl (ncells l) from Xm61.out.below hb (Nat.le_refl _))
           clear Lm58 Rm59 Rm60 Xm61
           clear hb
           go_wp2_with (first
            | (refine at_dst11 (d := 155) ?_; refine wpList_step11 (o := ⟨some 155, _, _, _, _, _⟩) rfl _ wr (step_ref13 (x := .tmp 18) rfl rfl Rm64.out) ?_))
           have hme := SK.mend (G := fun _ => true) Lm62.out.ac HRo.out HPNp.out Tf.out (by rw [cntG_all (fun _ _ => rfl)]; omega)
           rw [show cntG (K + M) (fun d => !(fun _ => true) d && liveG xsf d) = 0 from by rw [← cntG_none (n := K + M)]; exact cntG_congr fun d _ => rfl] at hme
           refine hme.mono ?_; clear hme; rintro e w17 ⟨rfl, hm⟩
           have hm : MutA Rep Sm48 A (mendAll K (K + M) 3 p 77 b (fun _ => true) xsf) wr w17 := hm
           rw [mendAll_none] at hm
           obtain ⟨Sm66, hLm67, hNm68⟩ := Lm62.out.mut hm rfl Tf.out.ns IDf.out.wl0
           have Lm69 := Lib.hid hLm67
           clear hLm67
           have Rm70 := Lib.hid (show Geo13 w17 w.heap.size (K : Int) (M : Int) (N : Int) from hNm68.1.row_some Rm63.out NSm53.out)
           have NSm71 := Lib.hid (show ¬ Sm66 w.heap.size from fun q => (hNm68.2 _ q).elim NSm53.out (fun q => by have := block_lt Rm63.out; omega))
           have Rm72 := Lib.hid (show Rf13 w17 Br 3 (p : Int) 77 from hNm68.1.row_some Rm64.out NSm55.out)
           have NSm73 := Lib.hid (show ¬ Sm66 Br from fun q => (hNm68.2 _ q).elim NSm55.out (fun q => by have := block_lt Rm64.out; omega))
           have Xm74 := Lib.hid (show Sl w17 1 Al ql cl (ncells l) from Xm65.out.fr hNm68.1 NXm57.out)
           have NXm75 := Lib.hid (show ∀ b o, 0 < ql → Al = some ⟨b, o, none⟩ → ¬ Sm66 b from fun b o hn hA q => (hNm68.2 _ q).elim (NXm57.out b o hn hA) (fun q => by have := Xm65.out.lt (by decide) hn hA; omega))
           clear hNm68 Lm62 Rm63 NSm53 Rm64 NSm55 Xm65 NXm57
           clear hm
           have a1 := Geo13.c1 Rm70.out
           go_wp2_with fail
           clear a1
           have hds := distinct13_any A2 na c2 again n (M : Int) (by omega) (by have := HK.out; omega) (by have := Hn.out; have := HK.out; omega) (by have := HND.out; omega) w17 (HS2p.out.below Lm69.out.bel (Nat.le_refl _))
           refine hds.mono ?_; clear hds; rintro e w18 ⟨Alb, clb, rfl, hsl, hbd, hlo⟩
           obtain ⟨lb, hl⟩ : ∃ l, l = distL n (M : Int) again [] := ⟨_, rfl⟩
           rw [← hl] at hsl ⊢
           have HDlb := Lib.hid (show Dist n lb from hl ▸ distL_dist again [] (Dist.nil n))
           have HLMlb := Lib.hid (show lb.length ≤ M from by have := distL_most (n := n) (most := (M : Int)) again [] (by simp); rw [← hl] at this; omega)
           obtain ⟨qlb, hql⟩ : ∃ q, q = lb.length := ⟨_, rfl⟩
           rw [← hql] at hsl ⊢
           have HQLlb := Lib.hid hql
           have hq10lb : qlb ≤ 10 := by have := HLMlb.out; have := HK.out; omega
           have XLlb := Lib.hid hsl
           have NXLlb := Lib.hid (show ∀ b o, 0 < qlb → Alb = some ⟨b, o, none⟩ → ¬ Sm66 b from fun b o _ hA q => by have := hlo b o hA; have := Lm69.out.ac.a.old q; omega)
           have Lm76 := Lib.hid (Lm69.out.later DK hbd)
           have Rm77 := Lib.hid (show Geo13 w18 w.heap.size (K : Int) (M : Int) (N : Int) from (hbd.block _ (block_lt Rm70.out)).trans Rm70.out)
           have Rm78 := Lib.hid (show Rf13 w18 Br 3 (p : Int) 77 from (hbd.block _ (block_lt Rm72.out)).trans Rm72.out)
           have Xm79 := Lib.hid (show Sl w18 1 Al ql cl (ncells l) from Xm74.out.below hbd (Nat.le_refl _))
           clear Lm69 Rm70 Rm72 Xm74
           clear hsl hlo hbd hl hql
           go_wp2_with fail
           have hhu := hurt_any DK ⟨Lm76.out.ac.a, Lm76.out.lo, Lm76.out.bel⟩ (by rw [Lm76.out.ac.len]; have := HK.out; omega) Alb clb lb (HQLlb.out ▸ XLlb.out) (fun d hd => by rw [Lm76.out.ac.len, ← Hn.out]; exact HDlb.out.lt d hd) (HQLlb.out ▸ NXLlb.out) (by have := HQLlb.out; omega) (p : Int) off mask (by omega) (by omega) HOF.out.1 HOF.out.2.1 HOF.out.2.2
           rw [← HQLlb.out] at hhu
           refine hhu.mono ?_; clear hhu; rintro e w19 ⟨rfl, Sgx, hla, hnx⟩
           rw [HO60.out.1] at hla
           have hst := Tf.out.hurtAll IDf.out HK.out.1 HRo.out HPNp.out (off := o60) (mask := max 1 mask) HO60.out.2 (by omega) (by have := HOF.out; omega) (Hn.out ▸ HDlb.out) (fun d _ => rfl)
           rw [← HQLlb.out] at hst
           have hid := hurtT_idle (p := (p : Int)) (off := (o60 : Int)) (mask := max 1 mask) (l := lb) IDf.out qlb
           have hm : MutA Rep Sm66 A (hurtT (p : Int) (o60 : Int) (max 1 mask) lb xsf qlb) w18 w19 := ⟨Sgx, hla.ap, hnx⟩
           clear hla hnx
           obtain ⟨Sm80, hLm81, hNm82⟩ := Lm76.out.mut hm (hurtT_len _) hst.ns hid.wl0
           have Lm83 := Lib.hid hLm81
           clear hLm81
           have Rm84 := Lib.hid (show Geo13 w19 w.heap.size (K : Int) (M : Int) (N : Int) from hNm82.1.row_some Rm77.out NSm71.out)
           have NSm85 := Lib.hid (show ¬ Sm80 w.heap.size from fun q => (hNm82.2 _ q).elim NSm71.out (fun q => by have := block_lt Rm77.out; omega))
           have Rm86 := Lib.hid (show Rf13 w19 Br 3 (p : Int) 77 from hNm82.1.row_some Rm78.out NSm73.out)
           have NSm87 := Lib.hid (show ¬ Sm80 Br from fun q => (hNm82.2 _ q).elim NSm73.out (fun q => by have := block_lt Rm78.out; omega))
           have Xm88 := Lib.hid (show Sl w19 1 Al ql cl (ncells l) from Xm79.out.fr hNm82.1 NXm75.out)
           have NXm89 := Lib.hid (show ∀ b o, 0 < ql → Al = some ⟨b, o, none⟩ → ¬ Sm80 b from fun b o hn hA q => (hNm82.2 _ q).elim (NXm75.out b o hn hA) (fun q => by have := Xm79.out.lt (by decide) hn hA; omega))
           have Xm90 := Lib.hid (show Sl w19 1 Alb qlb clb (ncells lb) from XLlb.out.fr hNm82.1 NXLlb.out)
           have NXm91 := Lib.hid (show ∀ b o, 0 < qlb → Alb = some ⟨b, o, none⟩ → ¬ Sm80 b from fun b o hn hA q => (hNm82.2 _ q).elim (NXLlb.out b o hn hA) (fun q => by have := XLlb.out.lt (by decide) hn hA; omega))
           clear hNm82 Lm76 Rm77 NSm71 Rm78 NSm73 Xm79 NXm75 XLlb NXLlb
           obtain ⟨xsg, hxs⟩ : ∃ x, x = hurtT (p : Int) (o60 : Int) (max 1 mask) lb xsf qlb := ⟨_, rfl⟩
           rw [← hxs] at Lm83 hst hid
           have Tg := Lib.hid hst
           have IDg := Lib.hid hid
           have HCg := Lib.hid (show K ≤ cntG (K + M) (fun e => !lb.contains e) from by
            have h1 := cntG_less HDlb.out
            have h2 := HLMlb.out
            have h3 := Hn.out
            rw [h3] at h1
            omega)
           clear hst hid hxs hm
           go_wp2_with (first
            | (refine at_dst11 (d := 172) ?_; refine wpList_step11 (o := ⟨some 172, _, _, _, _, _⟩) rfl _ w19 (step_ref13 (x := .tmp 18) rfl rfl Rm86.out) ?_))
           have hg := SK.get Lm83.out.ac HRo.out HPNp.out Tg.out
           rw [if_pos HCg.out, if_pos HCg.out] at hg
           refine hg.mono ?_; clear hg; rintro e w20 ⟨Aw20, nw20, cw20, rfl, hsw20, hb, -⟩
           obtain rfl : nb = nw20 := by have := hsw20.len; rw [cells_length, Nat.mul_one] at this; rw [HNB.out]; exact this
           have Lm92 := Lib.hid (Lm83.out.later DK hb)
           have Rm93 := Lib.hid (show Geo13 w20 w.heap.size (K : Int) (M : Int) (N : Int) from (hb.block _ (block_lt Rm84.out)).trans Rm84.out)
           have Rm94 := Lib.hid (show Rf13 w20 Br 3 (p : Int) 77 from (hb.block _ (block_lt Rm86.out)).trans Rm86.out)
           have Xm95 := Lib.hid (show Sl w20 1 Al ql cl (ncells l) from Xm88.out.below hb (Nat.le_refl _))
           have Xm96 := Lib.hid (show Sl w20 1 Alb qlb clb (ncells lb) from Xm90.out.below hb (Nat.le_refl _))
           clear Lm83 Rm84 Rm86 Xm88 Xm90
           clear hb
           have k5 := str_of hsw20
           have hsn : Sl w20 1 A0 b.length c0 (cells b) := HNB.out ▸ (HS0.out.below Lm92.out.bel (Nat.le_refl _))
           have k6 := str_of hsn
           rw [← HNB.out] at k6
           have B20 := Lib.hid Lm92.out.bel
           clear hsn hsw20
           go_wp2_with fail
           refine (holds13_any DK SK w20 (HN.out.keep B20.out)).mono ?_; rintro e wz ⟨rfl, hbz⟩
           have BZ := Lib.hid (B20.out.trans (hbz.mono B20.out.size))
           clear hbz
           go_wp2_with fail
           go_ret
           exact ⟨rfl, BZ.out⟩
      ·have z : (30 : Int) < (na : Int) := by omega
       have hw : wrap64 (44 * (K : Int)) = 44 * (K : Int) := by have := G0.out.2.2.1; have := G0.out.1; unfold wrap64; omega
       go_wp2_with fail
       refine (holds13_any DK SK w1 (HN.out.keep B1.out)).mono ?_; rintro e wz ⟨rfl, hbz⟩
       have BZ := Lib.hid (B1.out.trans (hbz.mono B1.out.size))
       clear hbz
       go_wp2_with fail
       go_ret
       exact ⟨rfl, BZ.out⟩
     ·have z : (30 : Int) < (ng : Int) := by omega
      have hw : wrap64 (44 * (K : Int)) = 44 * (K : Int) := by have := G0.out.2.2.1; have := G0.out.1; unfold wrap64; omega
      go_wp2_with fail
      refine (holds13_any DK SK w1 (HN.out.keep B1.out)).mono ?_; rintro e wz ⟨rfl, hbz⟩
      have BZ := Lib.hid (B1.out.trans (hbz.mono B1.out.size))
      clear hbz
      go_wp2_with fail
      go_ret
      exact ⟨rfl, BZ.out⟩
    ·have z : 44 * (K : Int) < (nb : Int) := by omega
     have hw : wrap64 (44 * (K : Int)) = 44 * (K : Int) := by have := G0.out.2.2.1; have := G0.out.1; unfold wrap64; omega
     go_wp2_with fail
     refine (holds13_any DK SK w1 (HN.out.keep B1.out)).mono ?_; rintro e wz ⟨rfl, hbz⟩
     have BZ := Lib.hid (B1.out.trans (hbz.mono B1.out.size))
     clear hbz
     go_wp2_with fail
     go_ret
     exact ⟨rfl, BZ.out⟩
   ·have z : (N : Int) ≤ place := by omega
    have hw : wrap64 (44 * (K : Int)) = 44 * (K : Int) := by have := G0.out.2.2.1; have := G0.out.1; unfold wrap64; omega
    go_wp2_with fail
    refine (holds13_any DK SK w1 (HN.out.keep B1.out)).mono ?_; rintro e wz ⟨rfl, hbz⟩
    have BZ := Lib.hid (B1.out.trans (hbz.mono B1.out.size))
    clear hbz
    go_wp2_with fail
    go_ret
    exact ⟨rfl, BZ.out⟩
  ·have z : place < 0 := by omega
   have hw : wrap64 (44 * (K : Int)) = 44 * (K : Int) := by have := G0.out.2.2.1; have := G0.out.1; unfold wrap64; omega
   go_wp2_with fail
   refine (holds13_any DK SK w1 (HN.out.keep B1.out)).mono ?_; rintro e wz ⟨rfl, hbz⟩
   have BZ := Lib.hid (B1.out.trans (hbz.mono B1.out.size))
   clear hbz
   go_wp2_with fail
   go_ret
   exact ⟨rfl, BZ.out⟩
 ·rw [decide_eq_false g0] at hsmall
  go_enter Tryz.func4, Tryz.ntmps4
  go_wp2_with fail
  refine (hsmall _).mono ?_; rintro e w1 ⟨rfl, hb1⟩
  have B1 := Lib.hid (Hgeo.out.trans (hb1.mono Hgeo.out.size))
  clear hb1
  go_wp2_with fail
  refine (holds13_any DK SK w1 (HN.out.keep B1.out)).mono ?_; rintro e wz ⟨rfl, hbz⟩
  have BZ := Lib.hid (B1.out.trans (hbz.mono B1.out.size))
  clear hbz
  go_wp2_with fail
  go_ret
  exact ⟨rfl, BZ.out⟩
end
end Go.Proofs.YtajdholblmdnjaaGreatDoor
