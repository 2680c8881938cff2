/-
  StripeStale over StrK: it returns true, whatever its arguments. (Written by gen_edm.py.)
-/
import Derived.Test.YtajdholblmdnjaaGreatDoorEdl
import Derived.Deep.RegionHeld3
set_option linter.unusedVariables false
set_option maxRecDepth 100000
set_option maxHeartbeats 6400000
namespace Go.Proofs.YtajdholblmdnjaaGreatDoor
open Go.RowKit Go.Proofs
section
variable {Rep : World → (Nat → Prop) → Nat → Dv → Prop}
theorem stripeStale_any (DK : DrvK Rep) (SK : StrK Rep) (k m s : Int) (A0 : Option Addr) (c0 : Nat) (b : List UInt8) (A1 : Option Addr) (c1 : Nat) (now : List UInt8) (place : Int) (gen : Nat) (A2 : Option Addr) (c2 : Nat) (dead : List Int) (w : World)
  (bk : -9223372036854775808 ≤ k ∧ k < 9223372036854775808) (bm : -9223372036854775808 ≤ m ∧ m < 9223372036854775808) (bs : -9223372036854775808 ≤ s ∧ s < 9223372036854775808) (bp : -9223372036854775808 ≤ place ∧ place < 9223372036854775808) (bg : gen < 18446744073709551616)
  (hs0 : Sl w 1 A0 b.length c0 (cells b)) (hs1 : Sl w 1 A1 now.length c1 (cells now)) (hs2 : Sl w 1 A2 dead.length c2 (icells dead)) (hN : Nt w) :
  Calls Tryz.prog 6 #[.agg #[.int .i64 k, .int .i64 m, .int .i64 s], .slice A0 b.length c0, .slice A1 now.length c1, .int .i64 place, .int .u64 (gen : Int), .slice A2 dead.length c2] w (SaysTrue w) := by
 obtain ⟨nb, hnb⟩ : ∃ nb, nb = b.length := ⟨_, rfl⟩
 rw [← hnb] at hs0 ⊢
 obtain ⟨nw, hnw⟩ : ∃ nw, nw = now.length := ⟨_, rfl⟩
 rw [← hnw] at hs1 ⊢
 obtain ⟨nd, hnd⟩ : ∃ nd, nd = dead.length := ⟨_, rfl⟩
 rw [← hnd] at hs2 ⊢
 have HNB := Lib.hid hnb
 have HS0 := Lib.hid hs0
 clear hnb hs0
 have HNW := Lib.hid hnw
 have HS1 := Lib.hid hs1
 clear hnw hs1
 have HND := Lib.hid hnd
 have HS2 := Lib.hid hs2
 clear hnd hs2
 have HN := Lib.hid hN
 clear hN
 have hsmall := fun w => small13_any k m s bk bm bs w
 have Hgeo := Lib.hid (geo_below w k m s)
 have hrow := heap_alloc_new w (.cells #[.int .i64 k, .int .i64 m, .int .i64 s] 23)
 have Hrow := Lib.hid hrow
 clear hrow
 by_cases g0 : Small13 k m s
 ·rw [decide_eq_true g0] at hsmall
  obtain ⟨K, rfl⟩ : ∃ K : Nat, k = (K : Int) := ⟨k.toNat, by have := g0.1; omega⟩
  obtain ⟨M, rfl⟩ : ∃ M : Nat, m = (M : Int) := ⟨m.toNat, by have := g0.2.1; omega⟩
  obtain ⟨N, rfl⟩ : ∃ N : Nat, s = (N : Int) := ⟨s.toNat, by have := g0.2.2.2.1; omega⟩
  have G0 := Lib.hid g0
  clear g0 bk bm bs
  go_enter Tryz.func6, Tryz.ntmps6
  go_wp2_with fail
  refine (hsmall _).mono ?_; clear hsmall; rintro e w1 ⟨rfl, hb1⟩
  have hr1 : Geo13 w1 w.heap.size (K : Int) (M : Int) (N : Int) := (hb1.block _ (block_lt Hrow.out)).trans Hrow.out
  have a0 := hr1.c0
  have a2 := hr1.c2
  have B1 := Lib.hid (Hgeo.out.trans (hb1.mono Hgeo.out.size))
  have R1 := Lib.hid hr1
  clear hb1 hr1
  by_cases q1 : 0 ≤ place
  ·by_cases q2 : place < (N : Int)
   ·by_cases q3 : (nb : Int) ≤ 44 * (K : Int)
    ·by_cases q4 : (nw : Int) ≤ 44 * (K : Int)
     ·by_cases q5 : ((gen : Int) == 0) = false
      ·by_cases q6 : (nd : Int) ≤ 30
       ·have hw : wrap64 (44 * (K : Int)) = 44 * (K : Int) := by have := G0.out.2.2.1; have := G0.out.1; unfold wrap64; omega
        go_wp2_with (first
         | (refine at_dst11 (d := 71) ?_; refine wpList_step11 (o := ⟨some 71, _, _, _, _, _⟩) rfl _ w1 (step_geo13 (x := .tmp 6) rfl rfl R1.out) ?_))
        obtain ⟨p, rfl⟩ : ∃ p : Nat, place = (p : Int) := ⟨place.toNat, by omega⟩
        refine (made13_any DK K M N (by have := G0.out.1; omega) (by have := G0.out.2.1; omega) (by have := G0.out.2.2.1; omega) (by have := G0.out.2.2.2.1; omega) (by have := G0.out.2.2.2.2; omega) w1).mono ?_; intro e w2 hm
        obtain ⟨A, S2, C, F, T, rfl, hL, hS2, hbel⟩ := Lc13.made hm B1.out (HN.out.keep B1.out)
        have hr2 : Geo13 w2 w.heap.size (K : Int) (M : Int) (N : Int) := (hbel.block _ (block_lt R1.out)).trans R1.out
        have hz1 := block_lt R1.out
        obtain ⟨n, hn⟩ : ∃ n, n = K + M := ⟨_, rfl⟩
        have Hn := Lib.hid hn
        have HSn := Lib.hid hS2
        have L2 := Lib.hid hL
        have hnZ : ¬ S2 w.heap.size := fun q => by have := HSn.out _ q; omega
        have HnZ := Lib.hid hnZ
        have RG := Lib.hid hr2
        clear hm a0 a2 hL hS2 hbel hr2 hz1 hnZ hn hw
        obtain ⟨g1, hg1⟩ : ∃ g1, g1 = gen - 1 := ⟨_, rfl⟩
        have hq5 : ¬ (gen : Int) = 0 := by simpa using q5
        have hgw : IntKind.u64.wrap ((gen : Int) - 1) = (g1 : Int) := by rw [IntKind.wrap_u64]; omega
        have HG1 := Lib.hid (show gen ≠ g1 ∧ g1 < 18446744073709551616 from by omega)
        have HPN := Lib.hid (show p < N by omega)
        have HRr := Lib.hid (show RefOk 3 p gen b.length (44 * K) from ⟨by decide, by decide, by have := G0.out.2.2.2.2; omega, bg, by have := HNB.out; omega, by have := G0.out.2.2.1; have := G0.out.2.1; omega⟩)
        have HRk := Lib.hid (show RefOk 4 p gen b.length (44 * K) from ⟨by decide, by decide, by have := G0.out.2.2.2.2; omega, bg, by have := HNB.out; omega, by have := G0.out.2.2.1; have := G0.out.2.1; omega⟩)
        have HRs := Lib.hid (show RefOk 3 p g1 now.length (44 * K) from ⟨by decide, by decide, by have := G0.out.2.2.2.2; omega, by omega, by have := HNW.out; omega, by have := G0.out.2.2.1; have := G0.out.2.1; omega⟩)
        have HK := Lib.hid (show 1 ≤ K ∧ 1 ≤ M ∧ K + M ≤ 10 from ⟨by have := G0.out.1; omega, by have := G0.out.2.1; omega, by have := G0.out.2.2.1; omega⟩)
        have HND6 := Lib.hid (show nd ≤ 30 by omega)
        clear hg1 hq5 q1 q2 q3 q4 q5 q6
        go_wp2_with fail
        clear hgw
        have hb : Below w2.heap.size w2 ((w2.alloc (.cells #[.int .u8 3, .int .i64 (p : Int), .int .u64 (gen : Int)] 34)).alloc (.cells #[.int .u8 3, .int .i64 (p : Int), .int .u64 (g1 : Int)] 34)) := ((Below.refl _ _).alloc (Nat.le_refl _) _).alloc (by simp) _
        have hrr : Rf13 ((w2.alloc (.cells #[.int .u8 3, .int .i64 (p : Int), .int .u64 (gen : Int)] 34)).alloc (.cells #[.int .u8 3, .int .i64 (p : Int), .int .u64 (g1 : Int)] 34)) w2.heap.size 3 (p : Int) (gen : Int) := (Below.heap_alloc _ _ _ (by simp)).trans (heap_alloc_new w2 _)
        have hrs : Rf13 ((w2.alloc (.cells #[.int .u8 3, .int .i64 (p : Int), .int .u64 (gen : Int)] 34)).alloc (.cells #[.int .u8 3, .int .i64 (p : Int), .int .u64 (g1 : Int)] 34)) (w2.heap.size + 1) 3 (p : Int) (g1 : Int) := by
         have := heap_alloc_new (w2.alloc (.cells #[.int .u8 3, .int .i64 (p : Int), .int .u64 (gen : Int)] 34)) (.cells #[.int .u8 3, .int .i64 (p : Int), .int .u64 (g1 : Int)] 34)
         rw [show (w2.alloc (.cells #[.int .u8 3, .int .i64 (p : Int), .int .u64 (gen : Int)] 34)).heap.size = w2.heap.size + 1 from by simp] at this
         exact this
        obtain ⟨w3, hw3⟩ : ∃ x, x = ((w2.alloc (.cells #[.int .u8 3, .int .i64 (p : Int), .int .u64 (gen : Int)] 34)).alloc (.cells #[.int .u8 3, .int .i64 (p : Int), .int .u64 (g1 : Int)] 34)) := ⟨_, rfl⟩
        rw [← hw3] at hb hrr hrs ⊢
        obtain ⟨Br, hBr⟩ : ∃ B, B = w2.heap.size := ⟨_, rfl⟩
        obtain ⟨Bs, hBs⟩ : ∃ B, B = w2.heap.size + 1 := ⟨_, rfl⟩
        rw [← hBs] at hrs ⊢
        rw [← hBr] at hrr ⊢
        have NR := Lib.hid (show ¬ S2 Br from fun q => by have := L2.out.ac.a.old q; omega)
        have NSs := Lib.hid (show ¬ S2 Bs from fun q => by have := L2.out.ac.a.old q; omega)
        have RR := Lib.hid hrr
        have RS := Lib.hid hrs
        have Ls1 := Lib.hid (L2.out.later DK hb)
        have Rs2 := Lib.hid (show Geo13 w3 w.heap.size (K : Int) (M : Int) (N : Int) from (hb.block _ (block_lt RG.out)).trans RG.out)
        clear L2 RG
        clear hrr hrs hb hw3 hBr hBs
        have hp := SK.put 3 p gen b A0 c0 Ls1.out.ac HRr.out HPN.out (HNB.out ▸ (HS0.out.below Ls1.out.bel (Nat.le_refl _))) (fun bb o hn hA q => by have := HS0.out.lt (by decide) (by rw [HNB.out]; exact hn) hA; have := Ls1.out.lo _ q; omega)
        have hst := Str.put (p := p) (N := N) (kd := 3) (g := gen) (k := K) (b := b) Ls1.out.ac.len Ls1.out.ac.n HK.out.1 HRr.out HPN.out
        rw [cntG_all (n := K + M) live_new13, ← HNB.out, ← Hn.out] at hp
        refine hp.mono ?_; clear hp; rintro e w4 ⟨rfl, hm⟩
        rw [Hn.out] at hm
        have hst4 := hst.congr (H := fun _ => true) live_new13
        have hgo4 := putAll_gone0 (k := K) (n := K + M) (kd := 3) (p := p) (g := gen) (b := b) (new_gone (n := K + M) (N := N))
        have hwl4 := Wl.mono13 (putAll_wl (c := 0) (k := K) (n := K + M) (kd := 3) (p := p) (g := gen) (b := b) (Idle.new (n := K + M) (N := N)).wl0) (show 0 + 1 ≤ 500 by decide)
        obtain ⟨Ss3, hLs4, hNs5⟩ := Ls1.out.mut hm (hst.len.trans (List.length_replicate ..).symm) hst.ns (hwl4.mono13 (by decide))
        have Ls6 := Lib.hid hLs4
        clear hLs4
        have Rs7 := Lib.hid (show Geo13 w4 w.heap.size (K : Int) (M : Int) (N : Int) from hNs5.1.row_some Rs2.out HnZ.out)
        have NSs8 := Lib.hid (show ¬ Ss3 w.heap.size from fun q => (hNs5.2 _ q).elim HnZ.out (fun q => by have := block_lt Rs2.out; omega))
        have Rs9 := Lib.hid (show Rf13 w4 Br 3 (p : Int) (gen : Int) from hNs5.1.row_some RR.out NR.out)
        have NSs10 := Lib.hid (show ¬ Ss3 Br from fun q => (hNs5.2 _ q).elim NR.out (fun q => by have := block_lt RR.out; omega))
        have Rs11 := Lib.hid (show Rf13 w4 Bs 3 (p : Int) (g1 : Int) from hNs5.1.row_some RS.out NSs.out)
        have NSs12 := Lib.hid (show ¬ Ss3 Bs from fun q => (hNs5.2 _ q).elim NSs.out (fun q => by have := block_lt RS.out; omega))
        clear hNs5 Ls1 Rs2 HnZ RR NR RS NSs
        obtain ⟨xs4, hxs4⟩ : ∃ xs4, xs4 = putAll K (K + M) 3 p gen b (List.replicate (K + M) (Dv.new N)) := ⟨_, rfl⟩
        rw [← hxs4] at Ls6 hst4 hgo4 hwl4
        have T4 := Lib.hid hst4
        have GN4 := Lib.hid hgo4
        have WL4 := Lib.hid hwl4
        clear hst4 hst hgo4 hwl4 hxs4 hm
        go_wp2_with (first
         | (refine at_dst11 (d := 95) ?_; refine wpList_step11 (o := ⟨some 95, _, _, _, _, _⟩) rfl _ w4 (step_ref13 (x := .tmp 16) rfl rfl Rs11.out) ?_))
        have hg := SK.get (b := now) (G := fun _ => false) Ls6.out.ac HRs.out HPN.out (T4.out.other (fun d x hx => .inl rfl) HK.out.1 HRr.out (.inr HG1.out.1))
        rw [cntG_none, if_neg (by have := HK.out; omega), if_neg (by have := HK.out; omega)] at hg
        refine hg.mono ?_; clear hg; rintro e w5 ⟨Aw5, nw5, cw5, rfl, -, hb, -⟩
        have Ls13 := Lib.hid (Ls6.out.later DK hb)
        have Rs14 := Lib.hid (show Geo13 w5 w.heap.size (K : Int) (M : Int) (N : Int) from (hb.block _ (block_lt Rs7.out)).trans Rs7.out)
        have Rs15 := Lib.hid (show Rf13 w5 Br 3 (p : Int) (gen : Int) from (hb.block _ (block_lt Rs9.out)).trans Rs9.out)
        have Rs16 := Lib.hid (show Rf13 w5 Bs 3 (p : Int) (g1 : Int) from (hb.block _ (block_lt Rs11.out)).trans Rs11.out)
        clear Ls6 Rs7 Rs9 Rs11
        clear hb
        go_wp2_with fail
        have hg := SK.get (b := b) (G := fun _ => false) Ls13.out.ac HRk.out HPN.out (T4.out.other (fun d x hx => .inl rfl) HK.out.1 HRr.out (.inl (by decide)))
        rw [cntG_none, if_neg (by have := HK.out; omega), if_neg (by have := HK.out; omega)] at hg
        refine hg.mono ?_; clear hg; rintro e w6 ⟨Aw6, nw6, cw6, rfl, -, hb, -⟩
        have Ls17 := Lib.hid (Ls13.out.later DK hb)
        have Rs18 := Lib.hid (show Geo13 w6 w.heap.size (K : Int) (M : Int) (N : Int) from (hb.block _ (block_lt Rs14.out)).trans Rs14.out)
        have Rs19 := Lib.hid (show Rf13 w6 Br 3 (p : Int) (gen : Int) from (hb.block _ (block_lt Rs15.out)).trans Rs15.out)
        have Rs20 := Lib.hid (show Rf13 w6 Bs 3 (p : Int) (g1 : Int) from (hb.block _ (block_lt Rs16.out)).trans Rs16.out)
        clear Ls13 Rs14 Rs15 Rs16
        clear hb
        have a0 := Geo13.c0 Rs18.out
        have a1 := Geo13.c1 Rs18.out
        have hwn : wrap64 ((K : Int) + (M : Int)) = (n : Int) := by have := Hn.out; have := HK.out; unfold wrap64; omega
        have hds := distinct13_any A2 nd c2 dead n (M : Int) (by omega) (by have := HK.out; omega) (by have := Hn.out; have := HK.out; omega) (by have := HND6.out; omega) w6 (HS2.out.below Ls17.out.bel (Nat.le_refl _))
        go_wp2_with fail
        refine hds.mono ?_; clear hds a0 a1 hwn; rintro e w7 ⟨Ad, cd, rfl, hsl, hbd, hlo⟩
        obtain ⟨l, hl⟩ : ∃ l, l = distL n (M : Int) dead [] := ⟨_, rfl⟩
        rw [← hl] at hsl ⊢
        have HD := Lib.hid (show Dist n l from hl ▸ distL_dist dead [] (Dist.nil n))
        have HLM := Lib.hid (show l.length ≤ M from by have := distL_most (n := n) (most := (M : Int)) dead [] (by simp); rw [← hl] at this; omega)
        obtain ⟨ql, hql⟩ : ∃ q, q = l.length := ⟨_, rfl⟩
        rw [← hql] at hsl ⊢
        have HQL := Lib.hid hql
        have hq10 : ql ≤ 10 := by have := HLM.out; have := HK.out; omega
        have XL := Lib.hid hsl
        have NXL := Lib.hid (show ∀ b o, 0 < ql → Ad = some ⟨b, o, none⟩ → ¬ Ss3 b from fun b o _ hA q => by have := hlo b o hA; have := Ls17.out.ac.a.old q; omega)
        have Ls21 := Lib.hid (Ls17.out.later DK hbd)
        have Rs22 := Lib.hid (show Geo13 w7 w.heap.size (K : Int) (M : Int) (N : Int) from (hbd.block _ (block_lt Rs18.out)).trans Rs18.out)
        have Rs23 := Lib.hid (show Rf13 w7 Br 3 (p : Int) (gen : Int) from (hbd.block _ (block_lt Rs19.out)).trans Rs19.out)
        have Rs24 := Lib.hid (show Rf13 w7 Bs 3 (p : Int) (g1 : Int) from (hbd.block _ (block_lt Rs20.out)).trans Rs20.out)
        clear Ls17 Rs18 Rs19 Rs20
        clear hsl hlo hbd hl hql
        go_wp2_with fail
        go_loopw [24] (fun i wr => ∃ (t : Nat) (S' : Nat → Prop), t ≤ ql ∧ i = .int .i64 (t : Int) ∧ Lc13 Rep w wr S' A C K M F T N (failT l xs4 t) ∧ Nxt Ss3 S' w7 wr) (fun i _ => ql - (intOf i).toNat)
        case atStart => exact ⟨0, Ss3, by omega, rfl, Ls21.out, Nxt.refl _ _⟩
        case round =>
         obtain ⟨t, S9, ht, rfl, hL9, hN9⟩ := hrel
         have L9 := Lib.hid hL9
         have N9 := Lib.hid hN9
         clear hL9 hN9
         by_cases hlt : t < ql
         ·have hti : (t : Int) < (ql : Int) := by omega
          have htl : t < l.length := by rw [← HQL.out]; exact hlt
          obtain ⟨d, hdd⟩ : ∃ d, d = l[t]'htl := ⟨_, rfl⟩
          have hdn : d < n := by rw [hdd]; exact HD.out.lt _ (List.getElem_mem _)
          obtain ⟨b2, o2, hA2, hc⟩ := (XL.out.fr N9.out.1 NXL.out).at_ hlt
          subst hA2
          have hcell := hc t (.int .i64 (d : Int)) (by rw [ncells_get l t htl, hdd])
          have hnx : failT l xs4 (t + 1) = onD (failT l xs4 t) (d : Int) (fun x => x.fail) := by
           rw [failT, List.getD_eq_getElem?_getD, List.getElem?_eq_getElem htl, Option.getD_some, ← hdd]
          have Hnx := Lib.hid hnx
          have hla : (failT l xs4 t).length = n := by rw [failT_len, T4.out.len, Hn.out]
          have hfa := arfail_any DK L9.out.ac.a (by rw [hla]; omega) (d : Int)
          clear hc hnx hdd hdn hla
          go_wp2_with fail
          refine hfa.mono ?_; clear hfa hcell; rintro e w8 ⟨rfl, hm⟩
          rw [← Hnx.out] at hm
          obtain ⟨S10, hL10, hN10⟩ := L9.out.mut hm (by rw [failT_len, failT_len]) (failT_ns T4.out.ns (t + 1)) (failT_wl (WL4.out.mono13 (by decide)) (t + 1))
          have L10 := Lib.hid hL10
          have N10 := Lib.hid (N9.out.trans hN10)
          clear hm hL10 hN10
          go_wp2_with fail
          go_roundw
          case rel => exact ⟨t + 1, S10, by omega, by go_num, L10.out, N10.out⟩
          case measure => simp [intOf]; omega
         ·obtain rfl : ql = t := by omega
          have hN11 := N9.out
          have Rs25 := Lib.hid (show Geo13 wr w.heap.size (K : Int) (M : Int) (N : Int) from hN11.1.row_some Rs22.out NSs8.out)
          have NSs26 := Lib.hid (show ¬ S9 w.heap.size from fun q => (hN11.2 _ q).elim NSs8.out (fun q => by have := block_lt Rs22.out; omega))
          have Rs27 := Lib.hid (show Rf13 wr Br 3 (p : Int) (gen : Int) from hN11.1.row_some Rs23.out NSs10.out)
          have NSs28 := Lib.hid (show ¬ S9 Br from fun q => (hN11.2 _ q).elim NSs10.out (fun q => by have := block_lt Rs23.out; omega))
          have Rs29 := Lib.hid (show Rf13 wr Bs 3 (p : Int) (g1 : Int) from hN11.1.row_some Rs24.out NSs12.out)
          have NSs30 := Lib.hid (show ¬ S9 Bs from fun q => (hN11.2 _ q).elim NSs12.out (fun q => by have := block_lt Rs24.out; omega))
          have Xs31 := Lib.hid (show Sl wr 1 Ad ql cd (ncells l) from XL.out.fr hN11.1 NXL.out)
          have NXs32 := Lib.hid (show ∀ b o, 0 < ql → Ad = some ⟨b, o, none⟩ → ¬ S9 b from fun b o hn hA q => (hN11.2 _ q).elim (NXL.out b o hn hA) (fun q => by have := XL.out.lt (by decide) hn hA; omega))
          clear hN11 Ls21 Rs22 NSs8 Rs23 NSs10 Rs24 NSs12 XL NXL
          obtain ⟨ys, hys⟩ : ∃ ys, ys = failT l xs4 ql := ⟨_, rfl⟩
          have hyl : ys.length = K + M := by rw [hys, failT_len, T4.out.len]
          have hyn : ∀ (d : Nat) (x : Dv), ys[d]? = some x → x.Ok ∧ x.n = N := by rw [hys]; exact failT_ns T4.out.ns ql
          have hyw : Wl 500 ys := by rw [hys]; exact failT_wl WL4.out ql
          have hyv : ∀ d, d < n → liveG ys d = !l.contains d := fun d hd => by
           rw [hys, HQL.out, failT_live (fun x hx => by rw [T4.out.len, ← Hn.out]; exact HD.out.lt x hx) l.length (Nat.le_refl _) d, List.take_length, live_all GN4.out (by rw [T4.out.len, ← Hn.out]; exact hd), Bool.true_and]
          rw [← hys] at L9
          obtain ⟨y, hy⟩ : ∃ y, y = cntG n (liveG ys) := ⟨_, rfl⟩
          have HY := Lib.hid (show y + ql = n ∧ y = cntG n (liveG ys) from ⟨by rw [hy, cntG_congr hyv, HQL.out]; exact cntG_less HD.out, hy⟩)
          have HYL := Lib.hid hyl
          have HYN := Lib.hid hyn
          have HYW := Lib.hid hyw
          clear hyl hyn hyw hyv hys hy ht
          go_wp2_with (first
           | (refine at_dst11 (d := 132) ?_; refine wpList_step11 (o := ⟨some 132, _, _, _, _, _⟩) rfl _ wr (step_ref13 (x := .tmp 16) rfl rfl Rs29.out) ?_))
          have hp := SK.put 3 p g1 now A1 c1 L9.out.ac HRs.out HPN.out (HNW.out ▸ (HS1.out.below L9.out.bel (Nat.le_refl _))) (fun bb o hn hA q => by have := HS1.out.lt (by decide) (by rw [HNW.out]; exact hn) hA; have := L9.out.lo _ q; omega)
          have hst := Str.put (p := p) (N := N) (kd := 3) (g := g1) (k := K) (b := now) HYL.out HYN.out HK.out.1 HRs.out HPN.out
          rw [← HNW.out, ← Hn.out, ← HY.out.2] at hp
          refine hp.mono ?_; clear hp; rintro e w10 ⟨rfl, hm⟩
          have hgz := fun d x => putAll_gone (k := K) (n := K + M) (kd := 3) (p := p) (g := g1) (b := now) (d := d) (x := x) HYL.out
          rw [Hn.out] at hm
          have hwz := putAll_wl (k := K) (n := K + M) (kd := 3) (p := p) (g := g1) (b := now) HYW.out
          obtain ⟨Ss33, hLs34, hNs35⟩ := L9.out.mut hm (hst.len.trans HYL.out.symm) hst.ns (hwz.mono13 (by decide))
          have Ls36 := Lib.hid hLs34
          clear hLs34
          have Rs37 := Lib.hid (show Geo13 w10 w.heap.size (K : Int) (M : Int) (N : Int) from hNs35.1.row_some Rs25.out NSs26.out)
          have NSs38 := Lib.hid (show ¬ Ss33 w.heap.size from fun q => (hNs35.2 _ q).elim NSs26.out (fun q => by have := block_lt Rs25.out; omega))
          have Rs39 := Lib.hid (show Rf13 w10 Br 3 (p : Int) (gen : Int) from hNs35.1.row_some Rs27.out NSs28.out)
          have NSs40 := Lib.hid (show ¬ Ss33 Br from fun q => (hNs35.2 _ q).elim NSs28.out (fun q => by have := block_lt Rs27.out; omega))
          have Rs41 := Lib.hid (show Rf13 w10 Bs 3 (p : Int) (g1 : Int) from hNs35.1.row_some Rs29.out NSs30.out)
          have NSs42 := Lib.hid (show ¬ Ss33 Bs from fun q => (hNs35.2 _ q).elim NSs30.out (fun q => by have := block_lt Rs29.out; omega))
          have Xs43 := Lib.hid (show Sl w10 1 Ad ql cd (ncells l) from Xs31.out.fr hNs35.1 NXs32.out)
          have NXs44 := Lib.hid (show ∀ b o, 0 < ql → Ad = some ⟨b, o, none⟩ → ¬ Ss33 b from fun b o hn hA q => (hNs35.2 _ q).elim (NXs32.out b o hn hA) (fun q => by have := Xs31.out.lt (by decide) hn hA; omega))
          clear hNs35 L9 Rs25 NSs26 Rs27 NSs28 Rs29 NSs30 Xs31 NXs32
          obtain ⟨zs, hzs⟩ : ∃ zs, zs = putAll K (K + M) 3 p g1 now ys := ⟨_, rfl⟩
          rw [← hzs] at Ls36 hst hgz
          have TZ := Lib.hid hst
          have GZ := Lib.hid hgz
          clear hst hgz hwz hzs hm
          go_wp2_with (first
           | (refine at_dst11 (d := 140) ?_; refine wpList_step11 (o := ⟨some 140, _, _, _, _, _⟩) rfl _ w10 (step_ref13 (x := .tmp 15) rfl rfl Rs39.out) ?_))
          have hg := SK.get (b := b) (G := fun _ => false) Ls36.out.ac HRr.out HPN.out (TZ.out.other GZ.out HK.out.1 HRs.out (.inr (Ne.symm HG1.out.1)))
          rw [cntG_none, if_neg (by have := HK.out; omega), if_neg (by have := HK.out; omega)] at hg
          refine hg.mono ?_; clear hg; rintro e w11 ⟨Aw11, nw11, cw11, rfl, -, hb, -⟩
          have Ls45 := Lib.hid (Ls36.out.later DK hb)
          have Rs46 := Lib.hid (show Geo13 w11 w.heap.size (K : Int) (M : Int) (N : Int) from (hb.block _ (block_lt Rs37.out)).trans Rs37.out)
          have Rs47 := Lib.hid (show Rf13 w11 Br 3 (p : Int) (gen : Int) from (hb.block _ (block_lt Rs39.out)).trans Rs39.out)
          have Rs48 := Lib.hid (show Rf13 w11 Bs 3 (p : Int) (g1 : Int) from (hb.block _ (block_lt Rs41.out)).trans Rs41.out)
          have Xs49 := Lib.hid (show Sl w11 1 Ad ql cd (ncells l) from Xs43.out.below hb (Nat.le_refl _))
          clear Ls36 Rs37 Rs39 Rs41 Xs43
          clear hb
          go_wp2_with (first
           | (refine at_dst11 (d := 147) ?_; refine wpList_step11 (o := ⟨some 147, _, _, _, _, _⟩) rfl _ w11 (step_ref13 (x := .tmp 16) rfl rfl Rs48.out) ?_))
          have hg := SK.get Ls45.out.ac HRs.out HPN.out TZ.out
          have hky : K ≤ cntG (K + M) (liveG ys) := by
           have h1 := HY.out
           have h2 := HLM.out
           have h3 := Hn.out
           have h4 := HQL.out
           rw [← h3, ← h1.2]
           omega
          rw [if_pos hky, if_pos hky] at hg
          refine hg.mono ?_; clear hg hky; rintro e w12 ⟨A12, n12, c12, rfl, hs12, hb, -⟩
          obtain rfl : nw = n12 := by have := hs12.len; rw [cells_length, Nat.mul_one] at this; rw [HNW.out]; exact this
          have k5 := str_of hs12
          have Ls50 := Lib.hid (Ls45.out.later DK hb)
          have Rs51 := Lib.hid (show Geo13 w12 w.heap.size (K : Int) (M : Int) (N : Int) from (hb.block _ (block_lt Rs46.out)).trans Rs46.out)
          have Rs52 := Lib.hid (show Rf13 w12 Br 3 (p : Int) (gen : Int) from (hb.block _ (block_lt Rs47.out)).trans Rs47.out)
          have Rs53 := Lib.hid (show Rf13 w12 Bs 3 (p : Int) (g1 : Int) from (hb.block _ (block_lt Rs48.out)).trans Rs48.out)
          have Xs54 := Lib.hid (show Sl w12 1 Ad ql cd (ncells l) from Xs49.out.below hb (Nat.le_refl _))
          clear Ls45 Rs46 Rs47 Rs48 Xs49
          clear hb hs12
          have hsn : Sl w12 1 A1 now.length c1 (cells now) := HNW.out ▸ (HS1.out.below Ls50.out.bel (Nat.le_refl _))
          have k6 := str_of hsn
          rw [← HNW.out] at k6
          have a0 := Geo13.c0 Rs51.out
          have a1 := Geo13.c1 Rs51.out
          have hwn : wrap64 ((K : Int) + (M : Int)) = (n : Int) := by have := Hn.out; have := HK.out; unfold wrap64; omega
          have hwy : wrap64 ((n : Int) - (ql : Int)) = (y : Int) := by have := HY.out; have := Hn.out; have := HK.out; unfold wrap64; omega
          have B12 := Lib.hid Ls50.out.bel
          clear hsn
          go_wp2_with fail
          refine (holds13_any DK SK w12 (HN.out.keep B12.out)).mono ?_; rintro e wz ⟨rfl, hbz⟩
          have BZ := Lib.hid (B12.out.trans (hbz.mono B12.out.size))
          clear hbz
          go_wp2_with fail
          go_ret
          exact ⟨rfl, BZ.out⟩
       ·have z : (30 : Int) < (nd : Int) := by omega
        have hw : wrap64 (44 * (K : Int)) = 44 * (K : Int) := by have := G0.out.2.2.1; have := G0.out.1; unfold wrap64; omega
        go_wp2_with fail
        refine (holds13_any DK SK w1 (HN.out.keep B1.out)).mono ?_; rintro e wz ⟨rfl, hbz⟩
        have BZ := Lib.hid (B1.out.trans (hbz.mono B1.out.size))
        clear hbz
        go_wp2_with fail
        go_ret
        exact ⟨rfl, BZ.out⟩
      ·have z : ((gen : Int) == 0) = true := by simpa using q5
       have hw : wrap64 (44 * (K : Int)) = 44 * (K : Int) := by have := G0.out.2.2.1; have := G0.out.1; unfold wrap64; omega
       go_wp2_with fail
       refine (holds13_any DK SK w1 (HN.out.keep B1.out)).mono ?_; rintro e wz ⟨rfl, hbz⟩
       have BZ := Lib.hid (B1.out.trans (hbz.mono B1.out.size))
       clear hbz
       go_wp2_with fail
       go_ret
       exact ⟨rfl, BZ.out⟩
     ·have z : 44 * (K : Int) < (nw : Int) := by omega
      have hw : wrap64 (44 * (K : Int)) = 44 * (K : Int) := by have := G0.out.2.2.1; have := G0.out.1; unfold wrap64; omega
      go_wp2_with fail
      refine (holds13_any DK SK w1 (HN.out.keep B1.out)).mono ?_; rintro e wz ⟨rfl, hbz⟩
      have BZ := Lib.hid (B1.out.trans (hbz.mono B1.out.size))
      clear hbz
      go_wp2_with fail
      go_ret
      exact ⟨rfl, BZ.out⟩
    ·have z : 44 * (K : Int) < (nb : Int) := by omega
     have hw : wrap64 (44 * (K : Int)) = 44 * (K : Int) := by have := G0.out.2.2.1; have := G0.out.1; unfold wrap64; omega
     go_wp2_with fail
     refine (holds13_any DK SK w1 (HN.out.keep B1.out)).mono ?_; rintro e wz ⟨rfl, hbz⟩
     have BZ := Lib.hid (B1.out.trans (hbz.mono B1.out.size))
     clear hbz
     go_wp2_with fail
     go_ret
     exact ⟨rfl, BZ.out⟩
   ·have z : (N : Int) ≤ place := by omega
    have hw : wrap64 (44 * (K : Int)) = 44 * (K : Int) := by have := G0.out.2.2.1; have := G0.out.1; unfold wrap64; omega
    go_wp2_with fail
    refine (holds13_any DK SK w1 (HN.out.keep B1.out)).mono ?_; rintro e wz ⟨rfl, hbz⟩
    have BZ := Lib.hid (B1.out.trans (hbz.mono B1.out.size))
    clear hbz
    go_wp2_with fail
    go_ret
    exact ⟨rfl, BZ.out⟩
  ·have z : place < 0 := by omega
   have hw : wrap64 (44 * (K : Int)) = 44 * (K : Int) := by have := G0.out.2.2.1; have := G0.out.1; unfold wrap64; omega
   go_wp2_with fail
   refine (holds13_any DK SK w1 (HN.out.keep B1.out)).mono ?_; rintro e wz ⟨rfl, hbz⟩
   have BZ := Lib.hid (B1.out.trans (hbz.mono B1.out.size))
   clear hbz
   go_wp2_with fail
   go_ret
   exact ⟨rfl, BZ.out⟩
 ·rw [decide_eq_false g0] at hsmall
  go_enter Tryz.func6, Tryz.ntmps6
  go_wp2_with fail
  refine (hsmall _).mono ?_; rintro e w1 ⟨rfl, hb1⟩
  have B1 := Lib.hid (Hgeo.out.trans (hb1.mono Hgeo.out.size))
  clear hb1
  go_wp2_with fail
  refine (holds13_any DK SK w1 (HN.out.keep B1.out)).mono ?_; rintro e wz ⟨rfl, hbz⟩
  have BZ := Lib.hid (B1.out.trans (hbz.mono B1.out.size))
  clear hbz
  go_wp2_with fail
  go_ret
  exact ⟨rfl, BZ.out⟩
end
end Go.Proofs.YtajdholblmdnjaaGreatDoor
