/-
  StripeCrash over StrK: it returns true, whatever its arguments. (Written by gen_edn.py.)
-/
import Derived.Test.YtajdholblmdnjaaGreatDoorEdl
import Derived.Deep.RegionHeld3
set_option linter.unusedVariables false
set_option maxRecDepth 100000
set_option maxHeartbeats 6400000
namespace Go.Proofs.YtajdholblmdnjaaGreatDoor
section
open Go.RowKit Go.Proofs
def onK (keep : List Bool) (d : Nat) : Bool := keep.getD d false
def onL (keep : List Bool) (t : Nat) : List (List Bool) := (List.range t).map fun d => [onK keep d]
theorem onL_next {keep : List Bool} {t : Nat} : onL keep t ++ [[onK keep t]] = onL keep (t + 1) := by simp [onL, List.range_succ]
theorem onL_at {keep : List Bool} {t d : Nat} (h : d < t) : (onL keep t).getD d [] = [onK keep d] := by simp [onL, h]
theorem info_bs13 : (Tryz.prog.info? 48).map (fun i => (i.zero, i.size, i.bytes)) = some (some (.slice none 0 0), 1, 24) := by kernel_rfl
theorem make13bs (z : Int) (n : Nat) (hz : z = (n : Int)) (hn : n ≤ 1048576) (w : World) :
  (Instr.makeSlice 51 (.int .i64 z) (.int .i64 z)).run Tryz.prog w = .ok (.slice (some ⟨w.heap.size, 0, none⟩) n n) (w.alloc (.cells (madeCells #[.slice none 0 0] n) 48)) := by
 obtain ⟨i0, hi, hz0, hz1, hz2⟩ := info_parts info_bs13
 subst hz
 have h := run_make (P := Tryz.prog) w 51 48 i0 (.slice none 0 0) Tryz.underlying51 hi hz0 .i64 .i64 (n : Int) (n : Int) (by omega) (by omega) (by rw [hz2]; omega) (by omega)
 rw [hz1, Nat.mul_one, Int.toNat_natCast] at h
 exact h
structure Nfb (w : World) (B0 B n t : Nat) (rs : List (List Bool)) : Prop where
 ex : ∃ vs : List Value, Rw w B 48 1 n n (vs ++ List.replicate (n - t) (.slice none 0 0)) ∧ vs.length = t ∧ ∀ (i : Nat) (r : List Bool), rs[i]? = some r → ∃ A' c', vs[i]? = some (Value.slice A' r.length c') ∧ Sl w 1 A' r.length c' (bcells r) ∧ ∀ b o, 0 < r.length → A' = some ⟨b, o, none⟩ → B0 ≤ b ∧ b ≠ B
 len : rs.length = t
section
variable {w w' : World} {B0 B n t : Nat} {rs : List (List Bool)} {r : List Bool}
theorem Nfb.lt (h : Nfb w B0 B n t rs) : B < w.heap.size := by
 obtain ⟨vs, h1, _⟩ := h.ex
 exact h1.lt
theorem Nfb.later (h : Nfb w B0 B n t rs) (hb : Below w.heap.size w w') : Nfb w' B0 B n t rs := by
 obtain ⟨vs, h1, h2, h3⟩ := h.ex
 refine ⟨⟨vs, h1.later hb, h2, fun i r hi => ?_⟩, h.len⟩
 obtain ⟨A', c', g1, g2, g3⟩ := h3 i r hi
 exact ⟨A', c', g1, g2.below hb (Nat.le_refl _), g3⟩
theorem Nfb.made (w : World) (B0 n : Nat) (hn : n ≤ maxLen) : Nfb (w.alloc (.cells (madeCells #[.slice none 0 0] n) 48)) B0 w.heap.size n 0 [] :=
 ⟨⟨[], Rw.made w _ _ n hn, rfl, fun i r hi => by simp at hi⟩, rfl⟩
theorem Nfb.cell (h : Nfb w B0 B n t rs) (ht : t < n) : w.cell? ⟨B, t, none⟩ = some (.slice none 0 0) ∧ w.frozen? ⟨B, t, none⟩ = false := by
 obtain ⟨vs, h1, h2, h3⟩ := h.ex
 refine ⟨h1.cell ?_, h1.free _⟩
 rw [List.getElem?_append_right (by omega), h2, Nat.sub_self, List.getElem?_replicate, if_pos (by omega)]
theorem Nfb.store (h : Nfb w B0 B n t rs) (ht : t < n) {A2 : Option Addr} {c2 : Nat} (h2 : Sl w 1 A2 r.length c2 (bcells r)) (h2b : ∀ b o, 0 < r.length → A2 = some ⟨b, o, none⟩ → B0 ≤ b ∧ b ≠ B) : Nfb (w.setCell ⟨B, t, none⟩ (.slice A2 r.length c2)) B0 B n (t + 1) (rs ++ [r]) := by
 obtain ⟨vs, h1, hl, h3⟩ := h.ex
 have hf : Fr (fun b => b = B) w (w.setCell ⟨B, t, none⟩ (.slice A2 r.length c2)) := (Fr.refl (fun b => b = B) _).setCell (p := ⟨B, t, none⟩) (.inr rfl) _
 refine ⟨⟨vs ++ [.slice A2 r.length c2], ?_, by rw [List.length_append, hl]; rfl, fun i r3 hi => ?_⟩, by rw [List.length_append, h.len]; rfl⟩
 ·have := h1.set10 t (.slice A2 r.length c2)
  rw [set_mid hl ht] at this
  exact this
 ·rcases Nat.lt_or_ge i t with hlt | hge
  ·rw [List.getElem?_append_left (by rw [h.len]; exact hlt)] at hi
   obtain ⟨A3, c3, g1, g2, g3⟩ := h3 i r3 hi
   exact ⟨A3, c3, by rw [List.getElem?_append_left (by rw [hl]; exact hlt)]; exact g1, g2.fr hf (fun b o hn hA => (g3 b o hn hA).2), g3⟩
  ·rw [List.getElem?_append_right (by rw [h.len]; exact hge), h.len] at hi
   have : i - t = 0 ∧ r = r3 := by
    rcases hk : i - t with _ | k
    ·rw [hk] at hi; simp at hi; exact ⟨rfl, hi⟩
    ·rw [hk] at hi; simp at hi
   obtain ⟨h0, rfl⟩ := this
   exact ⟨A2, c2, by rw [List.getElem?_append_right (by rw [hl]; exact hge), hl, h0]; rfl, h2.fr hf (fun b o hn hA => (h2b b o hn hA).2), h2b⟩
theorem Nfb.ns (h : Nfb w B0 B n n rs) (hB : B0 ≤ B) : Ns bcells w (fun b => B0 ≤ b) (some ⟨B, 0, none⟩) n n rs := by
 obtain ⟨vs, h1, hl, h3⟩ := h.ex
 rw [Nat.sub_self, List.replicate_zero, List.append_nil] at h1
 refine ⟨⟨vs, h1.sl, fun i r hi => ?_⟩, h.len, fun b o hn hA => ?_⟩
 ·obtain ⟨A', c', g1, g2, g3⟩ := h3 i r hi
  exact ⟨A', c', g1, g2, fun b o hn hA => (g3 b o hn hA).1⟩
 ·injection hA with hA
  injection hA with hA _
  rw [← hA]
  exact hB
end
section
variable {Rep : World → (Nat → Prop) → Nat → Dv → Prop}
theorem stripeCrash_any (DK : DrvK Rep) (SK : StrK Rep) (k m s : Int) (A0 : Option Addr) (c0 : Nat) (b : List UInt8) (A1 : Option Addr) (c1 : Nat) (other : List UInt8) (place : Int) (A2 : Option Addr) (c2 : Nat) (keep : List Bool) (w : World)
  (bk : -9223372036854775808 ≤ k ∧ k < 9223372036854775808) (bm : -9223372036854775808 ≤ m ∧ m < 9223372036854775808) (bs : -9223372036854775808 ≤ s ∧ s < 9223372036854775808) (bp : -9223372036854775808 ≤ place ∧ place < 9223372036854775808)
  (hs0 : Sl w 1 A0 b.length c0 (cells b)) (hs1 : Sl w 1 A1 other.length c1 (cells other)) (hs2 : Sl w 1 A2 keep.length c2 (bcells keep)) (hN : Nt w) :
  Calls Tryz.prog 5 #[.agg #[.int .i64 k, .int .i64 m, .int .i64 s], .slice A0 b.length c0, .slice A1 other.length c1, .int .i64 place, .slice A2 keep.length c2] w (SaysTrue w) := by
 obtain ⟨nb, hnb⟩ : ∃ nb, nb = b.length := ⟨_, rfl⟩
 rw [← hnb] at hs0 ⊢
 obtain ⟨nw, hnw⟩ : ∃ nw, nw = other.length := ⟨_, rfl⟩
 rw [← hnw] at hs1 ⊢
 obtain ⟨nk, hnk⟩ : ∃ nk, nk = keep.length := ⟨_, rfl⟩
 rw [← hnk] at hs2 ⊢
 have HNB := Lib.hid hnb
 have HS0 := Lib.hid hs0
 clear hnb hs0
 have HNW := Lib.hid hnw
 have HS1 := Lib.hid hs1
 clear hnw hs1
 have HNK := Lib.hid hnk
 have HS2 := Lib.hid hs2
 clear hnk hs2
 have HN := Lib.hid hN
 clear hN
 have hsmall := fun w => small13_any k m s bk bm bs w
 have Hgeo := Lib.hid (geo_below w k m s)
 have hrow := heap_alloc_new w (.cells #[.int .i64 k, .int .i64 m, .int .i64 s] 23)
 have Hrow := Lib.hid hrow
 clear hrow
 by_cases g0 : Small13 k m s
 ·rw [decide_eq_true g0] at hsmall
  obtain ⟨K, rfl⟩ : ∃ K : Nat, k = (K : Int) := ⟨k.toNat, by have := g0.1; omega⟩
  obtain ⟨M, rfl⟩ : ∃ M : Nat, m = (M : Int) := ⟨m.toNat, by have := g0.2.1; omega⟩
  obtain ⟨N, rfl⟩ : ∃ N : Nat, s = (N : Int) := ⟨s.toNat, by have := g0.2.2.2.1; omega⟩
  have G0 := Lib.hid g0
  clear g0 bk bm bs
  go_enter Tryz.func5, Tryz.ntmps5
  go_wp2_with fail
  refine (hsmall _).mono ?_; clear hsmall; rintro e w1 ⟨rfl, hb1⟩
  have hr1 : Geo13 w1 w.heap.size (K : Int) (M : Int) (N : Int) := (hb1.block _ (block_lt Hrow.out)).trans Hrow.out
  have a0 := hr1.c0
  have a2 := hr1.c2
  have B1 := Lib.hid (Hgeo.out.trans (hb1.mono Hgeo.out.size))
  have R1 := Lib.hid hr1
  clear hb1 hr1
  by_cases q1 : 2 ≤ (N : Int)
  ·by_cases q2 : 0 ≤ place
   ·by_cases q3 : place < (N : Int)
    ·by_cases q4 : (nb : Int) ≤ 44 * (K : Int)
     ·by_cases q5 : (nw : Int) ≤ 44 * (K : Int)
      ·have hw : wrap64 (44 * (K : Int)) = 44 * (K : Int) := by have := G0.out.2.2.1; have := G0.out.1; unfold wrap64; omega
       go_wp2_with (first
        | (refine at_dst11 (d := 64) ?_; refine wpList_step11 (o := ⟨some 64, _, _, _, _, _⟩) rfl _ w1 (step_geo13 (x := .tmp 5) rfl rfl R1.out) ?_))
       obtain ⟨p, rfl⟩ : ∃ p : Nat, place = (p : Int) := ⟨place.toNat, by omega⟩
       refine (made13_any DK K M N (by have := G0.out.1; omega) (by have := G0.out.2.1; omega) (by have := G0.out.2.2.1; omega) (by have := G0.out.2.2.2.1; omega) (by have := G0.out.2.2.2.2; omega) w1).mono ?_; intro e w2 hm
       obtain ⟨A, S2, C, F, T, rfl, hL, hS2, hbel⟩ := Lc13.made hm B1.out (HN.out.keep B1.out)
       have hr2 : Geo13 w2 w.heap.size (K : Int) (M : Int) (N : Int) := (hbel.block _ (block_lt R1.out)).trans R1.out
       have hz1 := block_lt R1.out
       obtain ⟨n, hn⟩ : ∃ n, n = K + M := ⟨_, rfl⟩
       have Hn := Lib.hid hn
       have HSn := Lib.hid hS2
       have L2 := Lib.hid hL
       have hnZ : ¬ S2 w.heap.size := fun q => by have := HSn.out _ q; omega
       have HnZ := Lib.hid hnZ
       have RG := Lib.hid hr2
       clear hm a0 a2 hL hS2 hbel hr2 hz1 hnZ hn hw
       have HK := Lib.hid (show 1 ≤ K ∧ 1 ≤ M ∧ K + M ≤ 10 from ⟨by have := G0.out.1; omega, by have := G0.out.2.1; omega, by have := G0.out.2.2.1; omega⟩)
       obtain ⟨po, hpo⟩ : ∃ q, q = (p + 1) % N := ⟨_, rfl⟩
       have hpw : wrap64 ((p : Int) + 1) = (p : Int) + 1 := by have := G0.out.2.2.2.2; unfold wrap64; omega
       have hpm : ((p : Int) + 1) % (N : Int) = (po : Int) := by rw [hpo]; simp
       have hN0 : ¬ (N : Int) = 0 := by omega
       have hpo1 : po < N := by rw [hpo]; exact Nat.mod_lt _ (by omega)
       have hpo2 : ¬ po = p := by
        intro e
        rw [hpo] at e
        rcases Nat.lt_or_ge (p + 1) N with h | h
        ·rw [Nat.mod_eq_of_lt h] at e; omega
        ·have : p + 1 = N := by omega
         rw [this, Nat.mod_self] at e
         omega
       have HPNp := Lib.hid (show p < N by omega)
       have HPNpo := Lib.hid hpo1
       have HNE := Lib.hid hpo2
       have HRo := Lib.hid (show RefOk 2 po 1 other.length (44 * K) from ⟨by decide, by decide, by have := G0.out.2.2.2.2; omega, by decide, by have := HNW.out; omega, by have := G0.out.2.2.1; have := G0.out.2.1; omega⟩)
       have HRr := Lib.hid (show RefOk 3 p 2 b.length (44 * K) from ⟨by decide, by decide, by have := G0.out.2.2.2.2; omega, by decide, by have := HNB.out; omega, by have := G0.out.2.2.1; have := G0.out.2.1; omega⟩)
       clear hpo
       have a0 := Geo13.c0 RG.out
       have a1 := Geo13.c1 RG.out
       have a2 := Geo13.c2 RG.out
       have hwn : wrap64 ((K : Int) + (M : Int)) = (n : Int) := by have := Hn.out; have := HK.out; unfold wrap64; omega
       go_wp2_with fail
       rw [hwn]
       clear a0 a1 a2 hwn hpw hpm hN0 q1 q2 q3 q4 q5 hpo1 hpo2
       have hb : Below w2.heap.size w2 ((w2.alloc (.cells #[.int .u8 2, .int .i64 (po : Int), .int .u64 1] 34)).alloc (.cells #[.int .u8 3, .int .i64 (p : Int), .int .u64 2] 34)) := ((Below.refl _ _).alloc (Nat.le_refl _) _).alloc (by simp) _
       have hro : Rf13 ((w2.alloc (.cells #[.int .u8 2, .int .i64 (po : Int), .int .u64 1] 34)).alloc (.cells #[.int .u8 3, .int .i64 (p : Int), .int .u64 2] 34)) w2.heap.size 2 (po : Int) 1 := (Below.heap_alloc _ _ _ (by simp)).trans (heap_alloc_new w2 _)
       have hrr : Rf13 ((w2.alloc (.cells #[.int .u8 2, .int .i64 (po : Int), .int .u64 1] 34)).alloc (.cells #[.int .u8 3, .int .i64 (p : Int), .int .u64 2] 34)) (w2.heap.size + 1) 3 (p : Int) 2 := by
        have := heap_alloc_new (w2.alloc (.cells #[.int .u8 2, .int .i64 (po : Int), .int .u64 1] 34)) (.cells #[.int .u8 3, .int .i64 (p : Int), .int .u64 2] 34)
        rw [show (w2.alloc (.cells #[.int .u8 2, .int .i64 (po : Int), .int .u64 1] 34)).heap.size = w2.heap.size + 1 from by simp] at this
        exact this
       obtain ⟨w3, hw3⟩ : ∃ x, x = ((w2.alloc (.cells #[.int .u8 2, .int .i64 (po : Int), .int .u64 1] 34)).alloc (.cells #[.int .u8 3, .int .i64 (p : Int), .int .u64 2] 34)) := ⟨_, rfl⟩
       rw [← hw3] at hb hrr hro ⊢
       obtain ⟨Bo, hBo⟩ : ∃ B, B = w2.heap.size := ⟨_, rfl⟩
       obtain ⟨Br, hBr⟩ : ∃ B, B = w2.heap.size + 1 := ⟨_, rfl⟩
       rw [← hBr] at hrr ⊢
       rw [← hBo] at hro ⊢
       have NO := Lib.hid (show ¬ S2 Bo from fun q => by have := L2.out.ac.a.old q; omega)
       have NR := Lib.hid (show ¬ S2 Br from fun q => by have := L2.out.ac.a.old q; omega)
       have RO := Lib.hid hro
       have RR := Lib.hid hrr
       have Lc1 := Lib.hid (L2.out.later DK hb)
       have Rc2 := Lib.hid (show Geo13 w3 w.heap.size (K : Int) (M : Int) (N : Int) from (hb.block _ (block_lt RG.out)).trans RG.out)
       clear L2 RG
       clear hro hrr hb hw3 hBr hBo
       have hp := SK.put 2 po 1 other A1 c1 Lc1.out.ac HRo.out HPNpo.out (HNW.out ▸ (HS1.out.below Lc1.out.bel (Nat.le_refl _))) (fun bb o hn hA q => by have := HS1.out.lt (by decide) (by rw [HNW.out]; exact hn) hA; have := Lc1.out.lo _ q; omega)
       have hst := Str.put (p := po) (N := N) (kd := 2) (g := 1) (k := K) (b := other) Lc1.out.ac.len Lc1.out.ac.n HK.out.1 HRo.out HPNpo.out
       rw [cntG_all (n := K + M) live_new13, ← HNW.out, ← Hn.out] at hp
       refine hp.mono ?_; clear hp; rintro e w4 ⟨rfl, hm⟩
       rw [Hn.out] at hm
       have hstt := hst.congr (H := fun _ => true) live_new13
       have hgo := putAll_gone0 (k := K) (n := K + M) (kd := 2) (p := po) (g := 1) (b := other) (new_gone (n := K + M) (N := N))
       have hwl := Wl.mono13 (putAll_wl (c := 0) (k := K) (n := K + M) (kd := 2) (p := po) (g := 1) (b := other) (Idle.new (n := K + M) (N := N)).wl0) (show 0 + 1 ≤ 500 by decide)
       obtain ⟨Sc3, hLc4, hNc5⟩ := Lc1.out.mut hm (hst.len.trans (List.length_replicate ..).symm) hst.ns (hwl.mono13 (by decide))
       have Lc6 := Lib.hid hLc4
       clear hLc4
       have Rc7 := Lib.hid (show Geo13 w4 w.heap.size (K : Int) (M : Int) (N : Int) from hNc5.1.row_some Rc2.out HnZ.out)
       have NSc8 := Lib.hid (show ¬ Sc3 w.heap.size from fun q => (hNc5.2 _ q).elim HnZ.out (fun q => by have := block_lt Rc2.out; omega))
       have Rc9 := Lib.hid (show Rf13 w4 Bo 2 (po : Int) 1 from hNc5.1.row_some RO.out NO.out)
       have NSc10 := Lib.hid (show ¬ Sc3 Bo from fun q => (hNc5.2 _ q).elim NO.out (fun q => by have := block_lt RO.out; omega))
       have Rc11 := Lib.hid (show Rf13 w4 Br 3 (p : Int) 2 from hNc5.1.row_some RR.out NR.out)
       have NSc12 := Lib.hid (show ¬ Sc3 Br from fun q => (hNc5.2 _ q).elim NR.out (fun q => by have := block_lt RR.out; omega))
       clear hNc5 Lc1 Rc2 HnZ RO NO RR NR
       obtain ⟨xsa, hxs⟩ : ∃ x, x = putAll K (K + M) 2 po 1 other (List.replicate (K + M) (Dv.new N)) := ⟨_, rfl⟩
       rw [← hxs] at Lc6 hstt hgo hwl
       have Ta := Lib.hid hstt
       have GNa := Lib.hid hgo
       have WLa := Lib.hid hwl
       have NTa := Lib.hid (show Nought xsa N p from hxs ▸ (Nought.new HPNp.out).put HPNpo.out HNE.out HK.out.1 HRo.out)
       clear hstt hst hgo hwl hxs hm
       go_wp2_with fail
       have hfl := arflush_any DK Lc6.out.ac.a (Lc6.out.ac.wl.mono13 (by decide)) (by rw [Lc6.out.ac.len]; have := HK.out; omega)
       refine hfl.mono ?_; clear hfl; rintro e w5 ⟨rfl, hm⟩
       rw [flushN_all GNa.out, Lc6.out.ac.len, ← Hn.out]
       rw [Lc6.out.ac.len] at hm
       have hst := Ta.out.flush HPNpo.out
       have hid := flushS_idle (n := K + M) Lc6.out.ac.len (fun d x h => (Ta.out.ns d x h).1)
       have hgo := flushS_gone (n := K + M) Lc6.out.ac.len GNa.out
       obtain ⟨Sc13, hLc14, hNc15⟩ := Lc6.out.mut hm flushS_len hst.ns hid.wl0
       have Lc16 := Lib.hid hLc14
       clear hLc14
       have Rc17 := Lib.hid (show Geo13 w5 w.heap.size (K : Int) (M : Int) (N : Int) from hNc15.1.row_some Rc7.out NSc8.out)
       have NSc18 := Lib.hid (show ¬ Sc13 w.heap.size from fun q => (hNc15.2 _ q).elim NSc8.out (fun q => by have := block_lt Rc7.out; omega))
       have Rc19 := Lib.hid (show Rf13 w5 Bo 2 (po : Int) 1 from hNc15.1.row_some Rc9.out NSc10.out)
       have NSc20 := Lib.hid (show ¬ Sc13 Bo from fun q => (hNc15.2 _ q).elim NSc10.out (fun q => by have := block_lt Rc9.out; omega))
       have Rc21 := Lib.hid (show Rf13 w5 Br 3 (p : Int) 2 from hNc15.1.row_some Rc11.out NSc12.out)
       have NSc22 := Lib.hid (show ¬ Sc13 Br from fun q => (hNc15.2 _ q).elim NSc12.out (fun q => by have := block_lt Rc11.out; omega))
       clear hNc15 Lc6 Rc7 NSc8 Rc9 NSc10 Rc11 NSc12
       obtain ⟨xsb, hxs⟩ : ∃ x, x = flushS xsa (K + M) := ⟨_, rfl⟩
       rw [← hxs] at Lc16 hst hid hgo
       have Tb := Lib.hid hst
       have IDb := Lib.hid hid
       have GNb := Lib.hid hgo
       have NTb := Lib.hid (show Nought xsb N p from hxs ▸ NTa.out.flush HPNp.out)
       clear hst hid hgo hxs hm
       go_wp2_with (first
        | (refine at_dst11 (d := 100) ?_; refine wpList_step11 (o := ⟨some 100, _, _, _, _, _⟩) rfl _ w5 (step_ref13 (x := .tmp 15) rfl rfl Rc21.out) ?_))
       have hp := SK.put 3 p 2 b A0 c0 Lc16.out.ac HRr.out HPNp.out (HNB.out ▸ (HS0.out.below Lc16.out.bel (Nat.le_refl _))) (fun bb o hn hA q => by have := HS0.out.lt (by decide) (by rw [HNB.out]; exact hn) hA; have := Lc16.out.lo _ q; omega)
       have hlb : xsb.length = K + M := Lc16.out.ac.len
       rw [cntG_all (n := K + M) (fun d hd => live_all GNb.out (by rw [hlb]; exact hd)), ← HNB.out, ← Hn.out] at hp
       refine hp.mono ?_; clear hp; rintro e w6 ⟨rfl, hm⟩
       rw [Hn.out] at hm
       have hst := Tb.out.aside13 (b' := b) (g' := 2) (kd' := 3) HPNp.out (Ne.symm HNE.out) HK.out.1 HRr.out
       have hwt := NTb.out.wait (k := K) (n := K + M) (kd := 3) (g := 2) (b := b) IDb.out hlb HPNp.out HK.out.1 HRr.out
       obtain ⟨Sc23, hLc24, hNc25⟩ := Lc16.out.mut hm putAll_len hst.ns (hwt.wl (by decide))
       have Lc26 := Lib.hid hLc24
       clear hLc24
       have Rc27 := Lib.hid (show Geo13 w6 w.heap.size (K : Int) (M : Int) (N : Int) from hNc25.1.row_some Rc17.out NSc18.out)
       have NSc28 := Lib.hid (show ¬ Sc23 w.heap.size from fun q => (hNc25.2 _ q).elim NSc18.out (fun q => by have := block_lt Rc17.out; omega))
       have Rc29 := Lib.hid (show Rf13 w6 Bo 2 (po : Int) 1 from hNc25.1.row_some Rc19.out NSc20.out)
       have NSc30 := Lib.hid (show ¬ Sc23 Bo from fun q => (hNc25.2 _ q).elim NSc20.out (fun q => by have := block_lt Rc19.out; omega))
       have Rc31 := Lib.hid (show Rf13 w6 Br 3 (p : Int) 2 from hNc25.1.row_some Rc21.out NSc22.out)
       have NSc32 := Lib.hid (show ¬ Sc23 Br from fun q => (hNc25.2 _ q).elim NSc22.out (fun q => by have := block_lt Rc21.out; omega))
       clear hNc25 Lc16 Rc17 NSc18 Rc19 NSc20 Rc21 NSc22
       obtain ⟨xsc, hxs⟩ : ∃ x, x = putAll K (K + M) 3 p 2 b xsb := ⟨_, rfl⟩
       rw [← hxs] at Lc26 hst hwt
       have Tc := Lib.hid hst
       have WT := Lib.hid hwt
       clear hst hwt hlb hxs hm
       have hn10 : n ≤ 10 := by have := Hn.out; have := HK.out; omega
       have hmk := make13bs (n : Int) n rfl (by omega)
       go_wp2_with fail
       clear hmk
       have hb7 : Below w6.heap.size w6 (w6.alloc (.cells (madeCells #[.slice none 0 0] n) 48)) := (Below.refl _ _).alloc (Nat.le_refl _) _
       have hnf : Nfb (w6.alloc (.cells (madeCells #[.slice none 0 0] n) 48)) w6.heap.size w6.heap.size n 0 [] := Nfb.made w6 _ n (by unfold maxLen; omega)
       obtain ⟨w7, hw7⟩ : ∃ x, x = w6.alloc (.cells (madeCells #[.slice none 0 0] n) 48) := ⟨_, rfl⟩
       rw [← hw7] at hb7 hnf ⊢
       obtain ⟨Q, hQ⟩ : ∃ Q, Q = w6.heap.size := ⟨_, rfl⟩
       rw [← hQ] at hnf ⊢
       have NF := Lib.hid hnf
       have HB7 := Lib.hid hb7
       have L6o := Lib.hid (show ∀ bb, Sc23 bb → bb < Q from fun bb q => by have := Lc26.out.ac.a.old q; omega)
       have HQq := Lib.hid hQ
       clear hw7 hb7 hnf hQ
       go_wp2_with fail
       go_loopw [20, 22] (fun kp i wr => ∃ (t : Nat), t ≤ n ∧ i = .int .i64 (t : Int) ∧ kp = .int .i64 ((cntG t (onK keep) : Nat) : Int) ∧ Nfb wr Q Q n t (onL keep t) ∧ Below Q w6 wr) (fun _ i _ => n - (intOf i).toNat)
       case atStart => exact ⟨0, by omega, rfl, rfl, NF.out, HQq.out ▸ HB7.out⟩
       case round =>
        obtain ⟨t, ht, rfl, rfl, hnf, hb⟩ := hrel
        have NFr := Lib.hid hnf
        have Hb := Lib.hid hb
        by_cases hlt : t < n
        ·have hti : (t : Int) < (n : Int) := by omega
         obtain ⟨ct, hct⟩ : ∃ c, c = cntG t (onK keep) := ⟨_, rfl⟩
         rw [← hct]
         have hctn : ct ≤ 10 := by have := cntG_le (n := t) (G := onK keep); omega
         have Hct := Lib.hid hct
         obtain ⟨on, hon⟩ : ∃ o, o = onK keep t := ⟨_, rfl⟩
         have Hon := Lib.hid hon
         have hb1 : Below wr.heap.size wr (wr.alloc (.cells #[.bool on] 4)) := (Below.refl _ _).alloc (Nat.le_refl _) _
         have hsl : Sl (wr.alloc (.cells #[.bool on] 4)) 1 (some ⟨wr.heap.size, 0, none⟩) 1 1 (bcells [on]) := Sl.made wr #[.bool on] 4 1 1 rfl (by decide)
         obtain ⟨q1, u1⟩ := (hnf.later hb1).cell hlt
         have hQr : Q ≤ wr.heap.size ∧ Q < wr.heap.size := by have := hb.size; have := hnf.lt; omega
         have hst := (hnf.later hb1).store hlt (r := [on]) hsl (fun bb oo _ hA => by injection hA with hA; injection hA with hA _; omega)
         rw [hon, onL_next] at hst
         rw [← hon] at hst
         have ST := Lib.hid hst
         have HB9 := Lib.hid ((hb.alloc hQr.1 (.cells #[.bool on] 4)).setCell (p := ⟨Q, t, none⟩) (Nat.le_refl _) (.slice (some ⟨wr.heap.size, 0, none⟩) 1 1))
         have hnxt : cntG (t + 1) (onK keep) = ct + (if on = true then 1 else 0) := by
          rw [hct, hon]
          unfold cntG
          rw [List.range_succ, List.countP_append, List.countP_singleton]
         have Hnx := Lib.hid hnxt
         by_cases hk : (t : Int) < (nk : Int)
         ·obtain ⟨bk2, ok2, hAk, hck⟩ := ((HS2.out.below Lc26.out.bel (Nat.le_refl _)).below hb (by rw [HQq.out]; exact Nat.le_refl _)).at_ (show t < nk by omega)
          subst hAk
          have hcell := hck t (.bool on) (by
           have htk : t < keep.length := by have := HNK.out; omega
           rw [bcells_get keep t htk, hon, onK]
           simp [htk])
          clear hnf hb hsl hst hct hon hck hb1 hnxt hQr
          cases on
          ·go_wp2_with fail
           go_roundw
           case rel => exact ⟨t + 1, by omega, by go_num, by rw [Hnx.out]; simp, ST.out, HB9.out⟩
           case measure => simp [intOf]; omega
          ·go_wp2_with fail
           go_roundw
           case rel => exact ⟨t + 1, by omega, by go_num, by rw [Hnx.out]; simp, ST.out, HB9.out⟩
           case measure => simp [intOf]; omega
         ·have hof : on = false := by
           rw [hon, onK, List.getD_eq_getElem?_getD, List.getElem?_eq_none (by have := HNK.out; omega)]
           rfl
          subst hof
          clear hnf hb hsl hst hct hon hb1 hnxt hQr
          go_wp2_with fail
          go_roundw
          case rel => exact ⟨t + 1, by omega, by go_num, by rw [Hnx.out]; simp, ST.out, HB9.out⟩
          case measure => simp [intOf]; omega
        ·obtain rfl : n = t := by omega
         have hb8 : Below w6.heap.size w6 wr := HQq.out ▸ hb
         have Lc33 := Lib.hid (Lc26.out.later DK hb8)
         have Rc34 := Lib.hid (show Geo13 wr w.heap.size (K : Int) (M : Int) (N : Int) from (hb8.block _ (block_lt Rc27.out)).trans Rc27.out)
         have Rc35 := Lib.hid (show Rf13 wr Bo 2 (po : Int) 1 from (hb8.block _ (block_lt Rc29.out)).trans Rc29.out)
         have Rc36 := Lib.hid (show Rf13 wr Br 3 (p : Int) 2 from (hb8.block _ (block_lt Rc31.out)).trans Rc31.out)
         clear Lc26 Rc27 Rc29 Rc31
         have hnsr := NFr.out.ns (Nat.le_refl _)
         have hcr := arcrash_any DK Lc33.out.ac.a (Lc33.out.ac.wl.mono13 (by decide)) (by rw [Lc33.out.ac.len]; have := HK.out; omega) hnsr (fun bb hb hS => by
          have h1 := L6o.out bb hS
          have hb : Q ≤ bb := hb
          omega)
         clear hnsr hb8 hnf hb
         go_wp2_with fail
         refine hcr.mono ?_; clear hcr; rintro e w9 ⟨rfl, hm⟩
         have hm : MutA Rep Sc23 A (crashS xsc (onL keep n) (K + M)) wr w9 := by
          have h1 : xsc.length = K + M := Lc33.out.ac.len
          have h2 := Hn.out
          have hm := hm
          rw [h1] at hm
          first | exact hm | (rw [← h2] at hm ⊢; simpa using hm)
         have hcr := Str.crashed (kss := onL keep n) (on := onK keep) (n := K + M) Lc33.out.ac.len WT.out HPNp.out (fun d hd => by rw [onL_at (by rw [Hn.out]; exact hd)]; rfl)
         have hst := Tc.out.crash_aside13 (kss := onL keep n) WT.out HPNpo.out (Ne.symm HNE.out)
         have hid := crashS_idle (n := K + M) (kss := onL keep n) (show xsc.length = K + M from Lc33.out.ac.len)
         obtain ⟨Sc37, hLc38, hNc39⟩ := Lc33.out.mut hm crashS_len hst.ns hid.wl0
         have Lc40 := Lib.hid hLc38
         clear hLc38
         have Rc41 := Lib.hid (show Geo13 w9 w.heap.size (K : Int) (M : Int) (N : Int) from hNc39.1.row_some Rc34.out NSc28.out)
         have NSc42 := Lib.hid (show ¬ Sc37 w.heap.size from fun q => (hNc39.2 _ q).elim NSc28.out (fun q => by have := block_lt Rc34.out; omega))
         have Rc43 := Lib.hid (show Rf13 w9 Bo 2 (po : Int) 1 from hNc39.1.row_some Rc35.out NSc30.out)
         have NSc44 := Lib.hid (show ¬ Sc37 Bo from fun q => (hNc39.2 _ q).elim NSc30.out (fun q => by have := block_lt Rc35.out; omega))
         have Rc45 := Lib.hid (show Rf13 w9 Br 3 (p : Int) 2 from hNc39.1.row_some Rc36.out NSc32.out)
         have NSc46 := Lib.hid (show ¬ Sc37 Br from fun q => (hNc39.2 _ q).elim NSc32.out (fun q => by have := block_lt Rc36.out; omega))
         clear hNc39 Lc33 Rc34 NSc28 Rc35 NSc30 Rc36 NSc32
         obtain ⟨xsd, hxs⟩ : ∃ x, x = crashS xsc (onL keep n) (K + M) := ⟨_, rfl⟩
         rw [← hxs] at Lc40 hst hcr
         have Td := Lib.hid hst
         have Tr := Lib.hid hcr
         clear hst hcr hid hxs hm
         obtain ⟨ck, hck⟩ : ∃ c, c = cntG n (onK keep) := ⟨_, rfl⟩
         rw [← hck]
         have HCK := Lib.hid hck
         have HCO := Lib.hid (show K ≤ cntG (K + M) (fun _ => true) from by rw [cntG_all (fun _ _ => rfl)]; omega)
         by_cases hkk : K ≤ ck
         ·have HCR := Lib.hid (show  K ≤ cntG (K + M) (onK keep) from by rw [← Hn.out, ← hck]; exact hkk)
          have hki : ¬ (ck : Int) < (K : Int) := by omega
          clear hck hkk
          go_wp2_with (first
           | (refine at_dst11 (d := 138) ?_; refine wpList_step11 (o := ⟨some 138, _, _, _, _, _⟩) rfl _ w9 (step_ref13 (x := .tmp 15) rfl rfl Rc45.out) ?_))
          have hg := SK.get Lc40.out.ac HRr.out HPNp.out Tr.out
          rw [if_pos HCR.out, if_pos HCR.out] at hg
          refine hg.mono ?_; clear hg; rintro e w10 ⟨Aw10, nw10, cw10, rfl, hsw10, hb, -⟩
          obtain rfl : nb = nw10 := by have := hsw10.len; rw [cells_length, Nat.mul_one] at this; rw [HNB.out]; exact this
          have Lc47 := Lib.hid (Lc40.out.later DK hb)
          have Rc48 := Lib.hid (show Geo13 w10 w.heap.size (K : Int) (M : Int) (N : Int) from (hb.block _ (block_lt Rc41.out)).trans Rc41.out)
          have Rc49 := Lib.hid (show Rf13 w10 Bo 2 (po : Int) 1 from (hb.block _ (block_lt Rc43.out)).trans Rc43.out)
          have Rc50 := Lib.hid (show Rf13 w10 Br 3 (p : Int) 2 from (hb.block _ (block_lt Rc45.out)).trans Rc45.out)
          clear Lc40 Rc41 Rc43 Rc45
          clear hb
          have Y10 := Lib.hid hsw10
          clear hsw10
          go_wp2_with (first
           | (refine at_dst11 (d := 145) ?_; refine wpList_step11 (o := ⟨some 145, _, _, _, _, _⟩) rfl _ w10 (step_ref13 (x := .tmp 14) rfl rfl Rc49.out) ?_))
          have hg := SK.get Lc47.out.ac HRo.out HPNpo.out Td.out
          rw [if_pos HCO.out, if_pos HCO.out] at hg
          refine hg.mono ?_; clear hg; rintro e w11 ⟨Aw11, nw11, cw11, rfl, hsw11, hb, -⟩
          obtain rfl : nw = nw11 := by have := hsw11.len; rw [cells_length, Nat.mul_one] at this; rw [HNW.out]; exact this
          have hb10 := hb
          have Lc51 := Lib.hid (Lc47.out.later DK hb)
          have Rc52 := Lib.hid (show Geo13 w11 w.heap.size (K : Int) (M : Int) (N : Int) from (hb.block _ (block_lt Rc48.out)).trans Rc48.out)
          have Rc53 := Lib.hid (show Rf13 w11 Bo 2 (po : Int) 1 from (hb.block _ (block_lt Rc49.out)).trans Rc49.out)
          have Rc54 := Lib.hid (show Rf13 w11 Br 3 (p : Int) 2 from (hb.block _ (block_lt Rc50.out)).trans Rc50.out)
          clear Lc47 Rc48 Rc49 Rc50
          clear hb
          have k7 := str_of hsw11
          have hso : Sl w11 1 A1 other.length c1 (cells other) := HNW.out ▸ (HS1.out.below Lc51.out.bel (Nat.le_refl _))
          have k8 := str_of hso
          rw [← HNW.out] at k8
          have a0 := Geo13.c0 Rc52.out
          have B11 := Lib.hid Lc51.out.bel
          have k5 := str_of (Y10.out.below hb10 (Nat.le_refl _))
          have hsn : Sl w11 1 A0 b.length c0 (cells b) := HNB.out ▸ (HS0.out.below Lc51.out.bel (Nat.le_refl _))
          have k6 := str_of hsn
          rw [← HNB.out] at k6
          clear hsn
          clear hso hsw11 hb10
          go_wp2_with fail
          refine (holds13_any DK SK w11 (HN.out.keep B11.out)).mono ?_; rintro e wz ⟨rfl, hbz⟩
          have BZ := Lib.hid (B11.out.trans (hbz.mono B11.out.size))
          clear hbz
          go_wp2_with fail
          go_ret
          exact ⟨rfl, BZ.out⟩
         ·have HCR := Lib.hid (show ¬ K ≤ cntG (K + M) (onK keep) from by rw [← Hn.out, ← hck]; exact hkk)
          have hki : (ck : Int) < (K : Int) := by omega
          clear hck hkk
          go_wp2_with (first
           | (refine at_dst11 (d := 138) ?_; refine wpList_step11 (o := ⟨some 138, _, _, _, _, _⟩) rfl _ w9 (step_ref13 (x := .tmp 15) rfl rfl Rc45.out) ?_))
          have hg := SK.get Lc40.out.ac HRr.out HPNp.out Tr.out
          rw [if_neg HCR.out, if_neg HCR.out] at hg
          refine hg.mono ?_; clear hg; rintro e w10 ⟨Aw10, nw10, cw10, rfl, hsw10, hb, -⟩
          obtain rfl : nw10 = 0 := by have := hsw10.len; rw [cells_length, Nat.mul_one] at this; exact this.symm
          have Lc47 := Lib.hid (Lc40.out.later DK hb)
          have Rc48 := Lib.hid (show Geo13 w10 w.heap.size (K : Int) (M : Int) (N : Int) from (hb.block _ (block_lt Rc41.out)).trans Rc41.out)
          have Rc49 := Lib.hid (show Rf13 w10 Bo 2 (po : Int) 1 from (hb.block _ (block_lt Rc43.out)).trans Rc43.out)
          have Rc50 := Lib.hid (show Rf13 w10 Br 3 (p : Int) 2 from (hb.block _ (block_lt Rc45.out)).trans Rc45.out)
          clear Lc40 Rc41 Rc43 Rc45
          clear hb hsw10
          go_wp2_with (first
           | (refine at_dst11 (d := 145) ?_; refine wpList_step11 (o := ⟨some 145, _, _, _, _, _⟩) rfl _ w10 (step_ref13 (x := .tmp 14) rfl rfl Rc49.out) ?_))
          have hg := SK.get Lc47.out.ac HRo.out HPNpo.out Td.out
          rw [if_pos HCO.out, if_pos HCO.out] at hg
          refine hg.mono ?_; clear hg; rintro e w11 ⟨Aw11, nw11, cw11, rfl, hsw11, hb, -⟩
          obtain rfl : nw = nw11 := by have := hsw11.len; rw [cells_length, Nat.mul_one] at this; rw [HNW.out]; exact this
          have hb10 := hb
          have Lc51 := Lib.hid (Lc47.out.later DK hb)
          have Rc52 := Lib.hid (show Geo13 w11 w.heap.size (K : Int) (M : Int) (N : Int) from (hb.block _ (block_lt Rc48.out)).trans Rc48.out)
          have Rc53 := Lib.hid (show Rf13 w11 Bo 2 (po : Int) 1 from (hb.block _ (block_lt Rc49.out)).trans Rc49.out)
          have Rc54 := Lib.hid (show Rf13 w11 Br 3 (p : Int) 2 from (hb.block _ (block_lt Rc50.out)).trans Rc50.out)
          clear Lc47 Rc48 Rc49 Rc50
          clear hb
          have k7 := str_of hsw11
          have hso : Sl w11 1 A1 other.length c1 (cells other) := HNW.out ▸ (HS1.out.below Lc51.out.bel (Nat.le_refl _))
          have k8 := str_of hso
          rw [← HNW.out] at k8
          have a0 := Geo13.c0 Rc52.out
          have B11 := Lib.hid Lc51.out.bel
          clear hso hsw11 hb10
          go_wp2_with fail
          refine (holds13_any DK SK w11 (HN.out.keep B11.out)).mono ?_; rintro e wz ⟨rfl, hbz⟩
          have BZ := Lib.hid (B11.out.trans (hbz.mono B11.out.size))
          clear hbz
          go_wp2_with fail
          go_ret
          exact ⟨rfl, BZ.out⟩
      ·have z : 44 * (K : Int) < (nw : Int) := by omega
       have hw : wrap64 (44 * (K : Int)) = 44 * (K : Int) := by have := G0.out.2.2.1; have := G0.out.1; unfold wrap64; omega
       go_wp2_with fail
       refine (holds13_any DK SK w1 (HN.out.keep B1.out)).mono ?_; rintro e wz ⟨rfl, hbz⟩
       have BZ := Lib.hid (B1.out.trans (hbz.mono B1.out.size))
       clear hbz
       go_wp2_with fail
       go_ret
       exact ⟨rfl, BZ.out⟩
     ·have z : 44 * (K : Int) < (nb : Int) := by omega
      have hw : wrap64 (44 * (K : Int)) = 44 * (K : Int) := by have := G0.out.2.2.1; have := G0.out.1; unfold wrap64; omega
      go_wp2_with fail
      refine (holds13_any DK SK w1 (HN.out.keep B1.out)).mono ?_; rintro e wz ⟨rfl, hbz⟩
      have BZ := Lib.hid (B1.out.trans (hbz.mono B1.out.size))
      clear hbz
      go_wp2_with fail
      go_ret
      exact ⟨rfl, BZ.out⟩
    ·have z : (N : Int) ≤ place := by omega
     have hw : wrap64 (44 * (K : Int)) = 44 * (K : Int) := by have := G0.out.2.2.1; have := G0.out.1; unfold wrap64; omega
     go_wp2_with fail
     refine (holds13_any DK SK w1 (HN.out.keep B1.out)).mono ?_; rintro e wz ⟨rfl, hbz⟩
     have BZ := Lib.hid (B1.out.trans (hbz.mono B1.out.size))
     clear hbz
     go_wp2_with fail
     go_ret
     exact ⟨rfl, BZ.out⟩
   ·have z : place < 0 := by omega
    have hw : wrap64 (44 * (K : Int)) = 44 * (K : Int) := by have := G0.out.2.2.1; have := G0.out.1; unfold wrap64; omega
    go_wp2_with fail
    refine (holds13_any DK SK w1 (HN.out.keep B1.out)).mono ?_; rintro e wz ⟨rfl, hbz⟩
    have BZ := Lib.hid (B1.out.trans (hbz.mono B1.out.size))
    clear hbz
    go_wp2_with fail
    go_ret
    exact ⟨rfl, BZ.out⟩
  ·have z : (N : Int) < 2 := by omega
   have hw : wrap64 (44 * (K : Int)) = 44 * (K : Int) := by have := G0.out.2.2.1; have := G0.out.1; unfold wrap64; omega
   go_wp2_with fail
   refine (holds13_any DK SK w1 (HN.out.keep B1.out)).mono ?_; rintro e wz ⟨rfl, hbz⟩
   have BZ := Lib.hid (B1.out.trans (hbz.mono B1.out.size))
   clear hbz
   go_wp2_with fail
   go_ret
   exact ⟨rfl, BZ.out⟩
 ·rw [decide_eq_false g0] at hsmall
  go_enter Tryz.func5, Tryz.ntmps5
  go_wp2_with fail
  refine (hsmall _).mono ?_; rintro e w1 ⟨rfl, hb1⟩
  have B1 := Lib.hid (Hgeo.out.trans (hb1.mono Hgeo.out.size))
  clear hb1
  go_wp2_with fail
  refine (holds13_any DK SK w1 (HN.out.keep B1.out)).mono ?_; rintro e wz ⟨rfl, hbz⟩
  have BZ := Lib.hid (B1.out.trans (hbz.mono B1.out.size))
  clear hbz
  go_wp2_with fail
  go_ret
  exact ⟨rfl, BZ.out⟩
end
end
end Go.Proofs.YtajdholblmdnjaaGreatDoor
