/-
  The statement's function BlobBack returns true, whatever its arguments. Conditions: drives as 'DrvK' says, values as 'StrV' says; both tables read as the row lists them. (Written by gen_eho.py.)
-/
import Derived.Test.YthmneinejfbheaaGreatDoorEhn
set_option linter.unusedVariables false
set_option maxRecDepth 20000
set_option maxHeartbeats 6400000
namespace Go.Proofs.YthmneinejfbheaaGreatDoor
open Go.RowKit Go.Proofs
def Bs15 (w : World) (B : Nat) (k m f c : Int) : Prop := w.heap[B]? = some (.cells #[.int .i64 k, .int .i64 m, .int .i64 f, .int .i64 c] 42 (0, 0))
section
variable {w w' : World} {B : Nat} {k m f c : Int}
theorem Bs15.c0 (h : Bs15 w B k m f c) : w.cell? ⟨B, 0, none⟩ = some (.int .i64 k) := by rw [cell_of_row _ _ _ _ _ _ h]; rfl
theorem Bs15.c1 (h : Bs15 w B k m f c) : w.cell? ⟨B, 1, none⟩ = some (.int .i64 m) := by rw [cell_of_row _ _ _ _ _ _ h]; rfl
theorem size_bs15 (k m f c : Int) : (Tryz.prog.info? 42).map (·.size) = some (#[Value.int .i64 k, .int .i64 m, .int .i64 f, .int .i64 c] : Array Value).size := by
 show _ = some 4
 kernel_rfl
theorem step_bs15 {ρ : Operand → Value} {o : Oper} {x : Operand} (ho : o.op = .load 42 x) (hx : ρ x = .pointer (some ⟨B, 0, none⟩)) (h : Bs15 w B k m f c) : (execOp ρ o).run Tryz.prog w = .ok (.value (.agg #[.int .i64 k, .int .i64 m, .int .i64 f, .int .i64 c])) w := by
 unfold execOp
 simp only [ho, hx, Instr.loadAt, Instr.sureAddr, Sem.run_bind, Sem.run_pure, Result.andThen_ok, run_loadVar_row w B 42 42 _ (0, 0) _ h Tryz.underlying42 rfl (size_bs15 k m f c)]
theorem step_bm15 {ρ : Operand → Value} {o : Oper} {x : Operand} {off : Nat} {v : Vr} (ho : o.op = .load 25 x) (hx : ρ x = .pointer (some ⟨B, off, none⟩)) (h : w.rangeAt B off (blC v)) : (execOp ρ o).run Tryz.prog w = .ok (.value (.agg (blC v).toArray)) w := by
 unfold execOp
 simp only [ho, hx, Instr.loadAt, Instr.sureAddr, Sem.run_bind, Sem.run_pure, Result.andThen_ok, run_loadVar_mid w B off 25 (blC v) _ h Tryz.underlying25 rfl (by show _ = some 3; kernel_rfl)]
theorem step_sub15 {ρ : Operand → Value} {o : Oper} {x y : Operand} {a b c : Int} {t u : TypeId} (ho : o.op = .binOp .sub t x y u) (hx : ρ x = .int .i64 a) (hy : ρ y = .int .i64 b) (hw : IntKind.i64.wrap (a - b) = c) : (execOp ρ o).run Tryz.prog w = .ok (.value (.int .i64 c)) w := by
 subst hw
 unfold execOp
 simp [ho, hx, hy, go_sem]
theorem step_add15 {ρ : Operand → Value} {o : Oper} {x y : Operand} {a b c : Int} {t u : TypeId} (ho : o.op = .binOp .add t x y u) (hx : ρ x = .int .i64 a) (hy : ρ y = .int .i64 b) (hw : IntKind.i64.wrap (a + b) = c) : (execOp ρ o).run Tryz.prog w = .ok (.value (.int .i64 c)) w := by
 subst hw
 unfold execOp
 simp [ho, hx, hy, go_sem]
theorem info_bl15 : (Tryz.prog.info? 25).map (fun i => (i.zero, i.size, i.bytes)) = some (some (.agg #[.slice none 0 0, .int .u64 0, .int .i64 0]), 3, 40) := by kernel_rfl
theorem info_bb15 : (Tryz.prog.info? 49).map (fun i => (i.zero, i.size, i.bytes)) = some (some (.slice none 0 0), 1, 24) := by kernel_rfl
end
structure It15 (k m N Cn Fs i : Nat) (xs : List Dv) (p : Ps) (vs : List Vr) : Prop where
 pv : Pv k m N xs p vs
 go : ∀ (d : Nat) (x : Dv), xs[d]? = some x → x.gone = false
 wl : Wl (10 * i) xs
 t : p.t ≤ 10 * i
 n : p.n = Cn
 a : p.a = Fs
 len : vs.length ≤ i
section
variable {Rep : World → (Nat → Prop) → Nat → Dv → Prop} {Good : Nat → Nat → (Nat → Bool) → Prop}
theorem bs_below (w : World) (k m f c : Int) : Below w.heap.size w (w.alloc (.cells #[.int .i64 k, .int .i64 m, .int .i64 f, .int .i64 c] 42)) := (Below.refl _ _).alloc (Nat.le_refl _) _
theorem blobBack_any (DK : DrvK Rep) (SV : StrV Rep Good) (hGd : ∀ k n G, k ≤ cntG n G → Good k n G) (k m f c : Int) (A1 : Option Addr) (p1 : Nat) (rs : List (List UInt8)) (A2 : Option Addr) (p2 : Nat) (gl : List Int) (w : World) (bk : -9223372036854775808 ≤ k ∧ k < 9223372036854775808) (bm : -9223372036854775808 ≤ m ∧ m < 9223372036854775808)
  (h1 : Gr w A1 rs.length p1 rs) (h2 : Sl w 1 A2 gl.length p2 (icells gl)) (hN : Nt w) (hT : Tz w) :
  Calls Tryz.prog 4 #[.agg #[.int .i64 k, .int .i64 m, .int .i64 f, .int .i64 c], .slice A1 rs.length p1, .slice A2 gl.length p2] w (SaysTrue w) := by
 have hk1 : Good 1 (1 + 1) (fun _ => true) := hGd _ _ _ (by decide)
 have hk := fun W (hb : Below w.heap.size w W) => keeps15_any DK SV hk1 W (hN.keep hb) (hT.keep hb)
 have HK := qH hk
 obtain ⟨L, hL⟩ : ∃ L, L = rs.length := ⟨_, rfl⟩
 rw [← hL] at h1 ⊢
 obtain ⟨G, hG⟩ : ∃ G, G = gl.length := ⟨_, rfl⟩
 rw [← hG] at h2 ⊢
 have HL := qH hL
 have HG := qH hG
 have HRS := qH h1
 have HGS := qH h2
 have HNN := qH hN
 have HTT := qH hT
 have hsm := fun W => small15_any k m f c bk bm W
 have Hbl := qH (bs_below w k m f c)
 have hbx : Bs15 (w.alloc (.cells #[.int .i64 k, .int .i64 m, .int .i64 f, .int .i64 c] 42)) w.heap.size k m f c := heap_alloc_new w _
 have Hbx := qH hbx
 have l63 := h1.lim
 have g63 := h2.lim
 unfold maxLen at l63 g63
 obtain ⟨ib, hb0, hb1, hb2, hb3⟩ := info_parts info_bl15
 have Ib0 := qH hb0
 have Ib1 := qH hb1
 have Ib2 := qH hb2
 have Ib3 := qH hb3
 obtain ⟨iu, hu0, hu1, hu2, hu3⟩ := info_parts info_bb15
 have Iu0 := qH hu0
 have Iu1 := qH hu1
 have Iu2 := qH hu2
 have Iu3 := qH hu3
 clear hb0 hb1 hb2 hb3 hu0 hu1 hu2 hu3
 clear hk hk1 hL hG h1 h2 hN hT hbx
 by_cases g0 : Small15 k m f c
 case neg =>
  rw [decide_eq_false g0] at hsm
  go_enter Tryz.func4, Tryz.ntmps4
  go_wp2_with (refine at_dst11 (d := 21) ?_; refine wpList_step11 (o := ⟨some 21, _, _, _, _, _⟩) rfl _ _ (step_bs15 (x := .tmp 3) rfl rfl Hbx.out) ?_)
  refine (hsm _).mono ?_; clear hsm; rintro e w1 ⟨rfl, hb⟩
  have X1 := qH (show Bs15 w1 w.heap.size _ _ _ _ from (hb.block _ (block_lt Hbx.out)).trans Hbx.out)
  have B1 := qH (Hbl.out.trans (hb.mono Hbl.out.size))
  clear hb Hbl Hbx
  go_wp2_with fail
  refine (HK.out w1 B1.out).mono ?_; rintro e wz ⟨rfl, hb⟩
  have BZ := qH (B1.out.trans (hb.mono B1.out.size))
  clear hb
  go_wp2_with fail
  go_ret
  exact ⟨rfl, BZ.out⟩
 rw [decide_eq_true g0] at hsm
 obtain ⟨Kn, rfl⟩ : ∃ Kn : Nat, k = (Kn : Int) := ⟨k.toNat, by have := g0.1; omega⟩
 obtain ⟨M, rfl⟩ : ∃ M : Nat, m = (M : Int) := ⟨m.toNat, by have := g0.2.1; omega⟩
 obtain ⟨Fs, rfl⟩ : ∃ Fs : Nat, f = (Fs : Int) := ⟨f.toNat, by have := g0.2.2.2.1; omega⟩
 obtain ⟨Cn, rfl⟩ : ∃ Cn : Nat, c = (Cn : Int) := ⟨c.toNat, by have := g0.2.2.2.2.2.1; omega⟩
 have HG0 := qH (show 1 ≤ Kn ∧ 1 ≤ M ∧ Kn + M ≤ 10 ∧ Fs ≤ 20 ∧ 1 ≤ Cn ∧ Cn ≤ 60 from by obtain ⟨q1, q2, q3, q4, q5, q6, q7⟩ := g0; omega)
 clear g0 bk bm
 by_cases d1 : (8 : Int) < (L : Int)
 case pos =>
  go_enter Tryz.func4, Tryz.ntmps4
  go_wp2_with (refine at_dst11 (d := 21) ?_; refine wpList_step11 (o := ⟨some 21, _, _, _, _, _⟩) rfl _ _ (step_bs15 (x := .tmp 3) rfl rfl Hbx.out) ?_)
  refine (hsm _).mono ?_; clear hsm; rintro e w1 ⟨rfl, hb⟩
  have X1 := qH (show Bs15 w1 w.heap.size _ _ _ _ from (hb.block _ (block_lt Hbx.out)).trans Hbx.out)
  have B1 := qH (Hbl.out.trans (hb.mono Hbl.out.size))
  clear hb Hbl Hbx
  go_wp2_with fail
  refine (HK.out w1 B1.out).mono ?_; rintro e wz ⟨rfl, hb⟩
  have BZ := qH (B1.out.trans (hb.mono B1.out.size))
  clear hb
  go_wp2_with fail
  go_ret
  exact ⟨rfl, BZ.out⟩
 by_cases d2 : (M : Int) < (G : Int)
 case pos =>
  go_enter Tryz.func4, Tryz.ntmps4
  go_wp2_with (refine at_dst11 (d := 21) ?_; refine wpList_step11 (o := ⟨some 21, _, _, _, _, _⟩) rfl _ _ (step_bs15 (x := .tmp 3) rfl rfl Hbx.out) ?_)
  refine (hsm _).mono ?_; clear hsm; rintro e w1 ⟨rfl, hb⟩
  have X1 := qH (show Bs15 w1 w.heap.size _ _ _ _ from (hb.block _ (block_lt Hbx.out)).trans Hbx.out)
  have B1 := qH (Hbl.out.trans (hb.mono Hbl.out.size))
  clear hb Hbl Hbx
  have c1 := X1.out.c1
  go_wp2_with fail
  refine (HK.out w1 B1.out).mono ?_; rintro e wz ⟨rfl, hb⟩
  have BZ := qH (B1.out.trans (hb.mono B1.out.size))
  clear hb
  go_wp2_with fail
  go_ret
  exact ⟨rfl, BZ.out⟩
 go_enter Tryz.func4, Tryz.ntmps4
 go_wp2_with (refine at_dst11 (d := 21) ?_; refine wpList_step11 (o := ⟨some 21, _, _, _, _, _⟩) rfl _ _ (step_bs15 (x := .tmp 3) rfl rfl Hbx.out) ?_)
 refine (hsm _).mono ?_; clear hsm; rintro e w1 ⟨rfl, hb⟩
 have X1 := qH (show Bs15 w1 w.heap.size _ _ _ _ from (hb.block _ (block_lt Hbx.out)).trans Hbx.out)
 have B1 := qH (Hbl.out.trans (hb.mono Hbl.out.size))
 clear hb Hbl Hbx
 have c1 := X1.out.c1
 go_wp2_with (refine at_dst11 (d := 38) ?_; refine wpList_step11 (o := ⟨some 38, _, _, _, _, _⟩) rfl _ w1 (step_bs15 (x := .tmp 3) rfl rfl X1.out) ?_)
 refine (made15_any DK Kn M Fs Cn HG0.out.1 HG0.out.2.1 (by have := HG0.out; omega) HG0.out.2.2.2.2.1 (by have := HG0.out; omega) (by have := HG0.out; omega) w1).mono ?_; intro e w2 hm
 obtain ⟨A, S, C, F, T, U, P, rfl, hLc, hb2, hlo⟩ := Lc15.made hm (Below.refl _ _) (HNN.out.keep B1.out)
 have LC := qH hLc
 have HT1 := qH (HTT.out.keep B1.out)
 have RS1 := qH (HRS.out.later B1.out)
 have GS1 := qH (HGS.out.below B1.out (Nat.le_refl _))
 have HB := qH (show w.heap.size < w1.heap.size from block_lt X1.out)
 have HKW0 := qH (show ∀ W, Below w1.heap.size w1 W → W.cell? ⟨w.heap.size, 0, none⟩ = some (.int .i64 (Kn : Int)) from fun W hb => (hb.cell HB.out).trans X1.out.c0)
 have HKM := qH (show ∀ W, Below w1.heap.size w1 W → W.cell? ⟨w.heap.size, 1, none⟩ = some (.int .i64 (M : Int)) from fun W hb => (hb.cell HB.out).trans X1.out.c1)
 clear hm hLc hb2 hlo c1
 go_wp2_with fail
 have L8 := qH (show L ≤ 8 from by omega)
 have LB0 : Lb15 Rep w1 w2 S A C Kn M F T (Fs + Cn) (List.replicate (Kn + M) (Dv.new (Fs + Cn))) U P (newP Fs Cn) [] none none 0 0 := ⟨LC.out, .inl ⟨rfl, rfl, rfl, rfl⟩, .inl ⟨rfl, rfl, rfl, rfl⟩, (fun x hx => by
  rcases hx with ⟨o, hx⟩ | ⟨o, hx⟩ <;> cases hx), fun v hv => absurd hv List.not_mem_nil⟩
 have IT0 : It15 Kn M (Fs + Cn) Cn Fs 0 (List.replicate (Kn + M) (Dv.new (Fs + Cn))) (newP Fs Cn) [] := ⟨Pv.nil, new_gone, Idle.new.wl0, by show 0 ≤ 10 * 0; omega, rfl, rfl, Nat.le_refl _⟩
 clear LC
 go_loopw [10, 11, 12] (fun av hv iv wr => ∃ (i : Nat) (S' : Nat → Prop) (xs : List Dv) (p : Ps) (vs : List Vr) (A0 A4 : Option Addr) (c0 c4 : Nat), i ≤ L ∧ av = .slice A0 vs.length c0 ∧ hv = .slice A4 vs.length c4 ∧ iv = .int .i64 (i : Int) ∧ Lb15 Rep w1 wr S' A C Kn M F T (Fs + Cn) xs U P p vs A0 A4 c0 c4 ∧ It15 Kn M (Fs + Cn) Cn Fs i xs p vs) (fun av hv iv _ => L - (intOf iv).toNat)
 case atStart => exact ⟨0, S, _, _, [], none, none, 0, 0, by omega, rfl, rfl, rfl, LB0, IT0⟩
 case round =>
  clear LB0 IT0
  obtain ⟨i, S', xs, p, vs, A0, A4, c0, c4, hi, rfl, rfl, rfl, hlb, hit⟩ := hrel
  have LB := qH hlb
  have IT := qH hit
  clear hlb hit
  by_cases hlt : i < L
  ·have hii : (i : Int) < (L : Int) := by omega
   have i1 : (0 : Int) ≤ (i : Int) := by omega
   obtain ⟨ab, ao, rfl, hrows⟩ := RS1.out.at_ (by omega)
   have hri := RS1.out.get hlt
   obtain ⟨r, hr⟩ : ∃ r, r = rs.getD i [] := ⟨_, rfl⟩
   rw [← hr] at hri
   obtain ⟨Ar, cr, hcell, hslr⟩ := hrows i r hri
   obtain ⟨q, hq⟩ : ∃ q, q = r.length := ⟨_, rfl⟩
   rw [← hq] at hcell hslr
   have HQ := qH hq
   have HCW := qH (show ∀ W, Below w1.heap.size w1 W → W.cell? ⟨ab, ao + i, none⟩ = some (.slice Ar q cr) from fun W hb => (hb.cell (World.block_lt_of_cell? w1 _ hcell)).trans hcell)
   have HKW := qH (show ∀ W, Below w1.heap.size w1 W → W.cell? ⟨w.heap.size, 0, none⟩ = some (.int .i64 (Kn : Int)) from fun W hb => (hb.cell HB.out).trans X1.out.c0)
   have HSR := qH hslr
   have HLX := qH (And.intro LB.out.lc.lc.ac.len LB.out.lc.lc.ac.n)
   have HAR := qH (show ∀ bb o, 0 < q → Ar = some ⟨bb, o, none⟩ → bb < w1.heap.size from fun bb o h0 hA => hslr.lt (by decide) h0 hA)
   have hcw := HCW.out wr LB.out.lc.lc.bel
   have q63 := hslr.lim
   unfold maxLen at q63
   clear hrows hri hr hcell hslr hq
   by_cases d4 : (400 : Int) < (q : Int)
   case pos =>
    have BW := qH (B1.out.trans (LB.out.lc.lc.bel.mono B1.out.size))
    go_wp2_with fail
    refine (HK.out wr BW.out).mono ?_; rintro e wz ⟨rfl, hb⟩
    have BZ := qH (BW.out.trans (hb.mono BW.out.size))
    clear hb
    go_wp2_with fail
    go_ret
    exact ⟨rfl, BZ.out⟩
   have hq4 : q ≤ 400 := by omega
   obtain ⟨cl, hcl⟩ : ∃ cl, cl = cntL p.n p.f := ⟨_, rfl⟩
   have hclle : cl ≤ Cn := by rw [hcl, ← IT.out.n]; exact plc_len_le
   obtain ⟨fr, hfr⟩ : ∃ fr, fr = Cn - cl := ⟨_, rfl⟩
   have hfree := free_any U P p wr LB.out.lc.pl (LB.out.lc.tz HT1.out)
   rw [← hcl, IT.out.n, show (Cn : Int) - (cl : Int) = (fr : Int) from by omega] at hfree
   have HCL := qH hcl
   have HFR := qH hfr
   obtain ⟨n, hn⟩ : ∃ n, n = countN (44 * Kn) q := ⟨_, rfl⟩
   have hn10 : n ≤ 10 := by rw [hn]; exact countN_small (by have := HG0.out; omega) hq4
   have HN := qH hn
   have HNL := qH (show n ≤ 10 ∧ fr ≤ 60 ∧ cl + fr = Cn from by have := HG0.out; omega)
   clear hcl hfr hn hclle hn10 d4
   go_wp2_with fail
   refine hfree.mono ?_; clear hfree; rintro e w3 ⟨rfl, hb⟩
   have LB := qH (LB.out.later DK hb)
   have hcw := HCW.out w3 LB.out.lc.lc.bel
   have S3 := qH (HSR.out.below LB.out.lc.lc.bel (Nat.le_refl _))
   clear hb
   by_cases hen : n + cl ≤ Cn
   case pos =>
    have HVN := qH (show vs.length ≤ 8 from by have := IT.out.len; have := L8.out; omega)
    have hlt12 := least_yes15 (n := p.n) (f := p.f) (m := n) (by rw [← HCL.out, IT.out.n]; exact hen)
    obtain ⟨l, hl⟩ : ∃ l, l = leastD p.n p.f (n : Int) := ⟨_, rfl⟩
    rw [← hl] at hlt12
    have HLT := qH hlt12
    have hp := put15_yes (c := 10 * i) DK SV LB.out.lc HT1.out r Ar q cr n l HQ.out.symm hq4 S3.out (fun bb o h0 hA => ⟨fun x => by have := HAR.out bb o h0 hA; have := LB.out.lc.lc.lo _ x; omega, fun x => by have := HAR.out bb o h0 hA; have := LB.out.lc.ulo _ x; omega⟩) HN.out.symm hl.symm hlt12 (by have := IT.out.t; have := HNL.out; have := L8.out; omega) (by have := HG0.out; omega) (by rw [IT.out.a, IT.out.n]; exact Nat.le_refl _) IT.out.wl (by have := L8.out; omega)
    unfold RetPut15 at hp
    rw [← HQ.out] at hp
    have HVO := qH (vok15 (k := Kn) (N := Fs + Cn) (g := genP p) hlt12 HG0.out.1 (by have := HG0.out; omega) (by have := HG0.out; omega) (by rw [IT.out.a, IT.out.n]; exact Nat.le_refl _) (by have := LB.out.lc.pl.ok.e2; have := LB.out.lc.pl.ok.t2; have := HNL.out; unfold genP; omega))
    clear hl hlt12
    go_wp2_with fail
    refine hp.mono ?_; clear hp; rintro e w4 ⟨bb, S4, rfl, hrb, hbb, hnb, hLc, hf, hS4⟩
    have hcn : cntL (takenP p l n).n (takenP p l n).f = cl + n := by
     have := takeAll_cnt HLT.out
     rw [HCL.out]; exact this
    have HCN := qH hcn
    have HPS := qH (show (placesL p l).length = n from by rw [placesL, List.length_map, HLT.out.len])
    have hsl4 : Sl w4 1 Ar q cr (cells r) := S3.out.fr hf (fun bb o h0 hA x => by
     have := HAR.out bb o h0 hA
     rcases x with x | x
     ·have := LB.out.lc.lc.lo _ x; omega
     ·have := LB.out.lc.ulo _ x; omega)
    have hof : Off15 w1 S4 U C F T bb := ⟨by have := LB.out.lc.lc.bel.size; omega, hnb, (LB.out.lc.off hbb).2.2⟩
    have LB := qH (LB.out.put hLc hf hS4)
    have VM := qH (show Vm w1 w4 S4 U C F T ⟨placesL p l, genP p, r, bb, Ar, cr⟩ from ⟨by
     show Rw w4 bb _ 1 (placesL p l).length (placesL p l).length _
     rw [HPS.out]; exact hrb, hof, by
     show Sl w4 1 Ar r.length cr (cells r)
     rw [← HQ.out]; exact hsl4, fun bb o h0 hA => HAR.out bb o (by have := HQ.out; rw [this]; exact h0) hA⟩)
    have IT := qH (show It15 Kn M (Fs + Cn) Cn Fs (i + 1) (putV Kn (Kn + M) (placesL p l) (genP p) r xs n) (takenP p l n) (vs ++ [⟨placesL p l, genP p, r, bb, Ar, cr⟩]) from ⟨IT.out.pv.put (v := ⟨placesL p l, genP p, r, bb, Ar, cr⟩) HLT.out HVO.out (by show countN (44 * Kn) r.length = n; rw [← HQ.out]; exact HN.out.symm) (by show r.length ≤ 400; rw [← HQ.out]; exact hq4) rfl rfl HLX.out.1 HLX.out.2 IT.out.go, putV_gone IT.out.go n, Wl.mono13 (putV_wl IT.out.wl n) (by have := HNL.out; omega), by
     have := IT.out.t
     have := HNL.out
     show p.t + n ≤ 10 * (i + 1)
     omega, IT.out.n, IT.out.a, by
     have := IT.out.len
     rw [List.length_append, List.length_singleton]
     omega⟩)
    obtain ⟨v, hv⟩ : ∃ v : Vr, v = ⟨placesL p l, genP p, r, bb, Ar, cr⟩ := ⟨_, rfl⟩
    rw [← hv] at VM IT
    obtain ⟨g, hg⟩ : ∃ g, g = genP p := ⟨_, rfl⟩
    rw [← hg]
    have HVC := qH (show blC v = [.slice (some ⟨bb, 0, none⟩) n n, .int .u64 (g : Int), .int .i64 (q : Int)] ∧ hdC v = .slice Ar q cr from by rw [hv, hg, HQ.out]; exact ⟨by rw [blC, HPS.out], rfl⟩)
    have HRT := qH (rightZ_ints (R := 44 * Kn) (l := placesL p l) (by have := HG0.out; omega) hq4 (by rw [HPS.out]; exact HN.out))
    have HSP := qH (show Sl w4 1 (some ⟨bb, 0, none⟩) n n (icells (intsOf (placesL p l))) from by rw [← ncells_icells15]; exact hrb.sl)
    obtain ⟨p', hp'⟩ : ∃ p', p' = takenP p l n := ⟨_, rfl⟩
    rw [← hp'] at LB IT HCN
    obtain ⟨xs', hxs'⟩ : ∃ xs', xs' = putV Kn (Kn + M) (placesL p l) (genP p) r xs n := ⟨_, rfl⟩
    rw [← hxs'] at LB IT
    obtain ⟨ps, hps⟩ : ∃ ps, ps = placesL p l := ⟨_, rfl⟩
    rw [← hps] at HRT HSP HPS
    clear hrb hbb hnb hLc hf hS4 hcn hsl4 hof hv hg hcw HVO HLX HLT hp' hxs' hps S3
    have sz := qH (size_bl3 (A := some ⟨bb, 0, none⟩) (n := n) (c := n) (g := (g : Int)) (z := (q : Int)))
    go_wp2_with (refine at_none ?_; refine wpList_store_row (o := ⟨none, _, _, _, _, _⟩) rfl 25 (.tmp 14) (.tmp 67) rfl w4.heap.size #[.slice (some ⟨bb, 0, none⟩) n n, .int .u64 (g : Int), .int .i64 (q : Int)] rfl rfl 25 _ (heap_alloc_last _ _) sz.out rfl one_bl3 ?_; rw [World.setRow_alloc_new])
    have hb := bl_below w4 (some ⟨bb, 0, none⟩) n n (g : Int) (q : Int)
    have hy := Bl3.new (w := w4) (A := some ⟨bb, 0, none⟩) (n := n) (c := n) (g := (g : Int)) (z := (q : Int))
    obtain ⟨w5, hw⟩ : ∃ x, x = w4.alloc (.cells #[.slice (some ⟨bb, 0, none⟩) n n, .int .u64 (g : Int), .int .i64 (q : Int)] 25) := ⟨_, rfl⟩
    rw [← hw] at hb hy ⊢
    clear hw
    have LB := qH (LB.out.later DK hb)
    have VM := qH (VM.out.fr (Fr.of_below hb : Fr (fun _ => False) _ _) (fun _ h => h.elim) (fun h => h))
    have HSP := qH (HSP.out.below hb (Nat.le_refl _))
    obtain ⟨Y, hY⟩ : ∃ Y, Y = w4.heap.size := ⟨_, rfl⟩
    rw [← hY] at hy ⊢
    have YB := qH hy
    clear hb hy hY sz
    refine wp_region_held_drew (S := fun w' => Fr (fun _ => False) w5.drew w') (by kernel_rfl) (Fr.refl _ _) (fun hHeld => ?_)
    clear hHeld
    refine tA 0 (some 69) rfl (Fr.refl _ _) ?_
    refine tL 1 (some 70) (v := ?vt1) rfl ?yt1 (Fr.refl _ _) ?rt1
    case yt1 =>
     intro wq hSw
     (try dsimp only at hSw)
     have hq := hSw.cell_some (HKW.out _ LB.out.lc.lc.bel.drew) (fun h => h)
     go_simp <;> with_reducible rfl
    try simp only [Act.put,sA,sB,sC]
    refine tA 2 (some 71) rfl (Fr.refl _ _) ?_
    refine tA 3 (some 72) rfl (Fr.refl _ _) ?_
    refine tA 4 (some 73) rfl (Fr.refl _ _) ?_
    refine tL 5 (some 74) (v := ?vt5) rfl ?yt5 (Fr.refl _ _) ?rt5
    case yt5 =>
     intro wq hSw
     (try dsimp only at hSw)
     have hq := hSw.cell_some (HCW.out _ LB.out.lc.lc.bel.drew) (fun h => h)
     go_simp <;> with_reducible rfl
    try simp only [Act.put,sA,sB,sC]
    refine tA 6 (some 75) rfl (Fr.refl _ _) ?_
    refine rW 7 (some 76) rfl fun K hK => ?_
    go_simp
    have hh := rcount15 Kn HG0.out.1 (by have := HG0.out; omega) (q : Int) (by omega) (by omega) w5.drew
    rw [show ((q : Int)).toNat = q from Int.toNat_natCast q, ← HN.out] at hh
    refine hh.mono ?_; clear hh; rintro e v9 ⟨rfl, hw⟩
    obtain rfl : w5.drew = v9 := hw.symm
    have hfr : Fr (fun _ => False) w5.drew w5.drew := Fr.refl _ _
    go_wp2_with fail
    refine hK.out _ _ hfr (fun hHeld => ?_)
    clear hK K hHeld
    try simp only [Act.put,sA,sB,sC]
    refine wpAnyH_re (S' := fun w' => Fr (fun _ => False) w5.drew w') (fun w' h => hfr.trans h) ?_
    clear hfr
    refine tA 8 (some 16) rfl (Fr.refl _ _) ?_
    refine tD ?_
    go_wp2_with fail
    obtain ⟨w6, hw6⟩ : ∃ x, x = w5.drew := ⟨_, rfl⟩
    have hb : Below w5.heap.size w5 w6 := hw6 ▸ (Below.drew (Below.refl _ _))
    rw [← hw6]
    clear hw6
    have LB := qH (LB.out.later DK hb)
    have VM := qH (VM.out.fr (Fr.of_below hb : Fr (fun _ => False) _ _) (fun _ h => h.elim) (fun h => h))
    have HSP := qH (HSP.out.below hb (Nat.le_refl _))
    have YB := qH (YB.out.later hb)
    clear hb
    go_wp2_with fail
    have hdr : Below w6.heap.size w6 w6.drew := (Below.drew (Below.refl _ _))
    have LB := qH (LB.out.later DK hdr)
    have VM := qH (VM.out.fr (Fr.of_below hdr : Fr (fun _ => False) _ _) (fun _ h => h.elim) (fun h => h))
    have HSP := qH (HSP.out.below hdr (Nat.le_refl _))
    have YB := qH (YB.out.later hdr)
    have hfree := free_any U P p' w6.drew LB.out.lc.pl (LB.out.lc.tz HT1.out)
    rw [HCN.out, IT.out.n, show (Cn : Int) - ((cl + n : Nat) : Int) = ((fr - n : Nat) : Int) from by have := HNL.out; omega] at hfree
    have HFN := qH (show IntKind.i64.wrap ((fr : Int) - (n : Int)) = ((fr - n : Nat) : Int) from by have := HNL.out; rw [IntKind.wrap_i64]; omega)
    obtain ⟨fn, hfn⟩ : ∃ fn, fn = fr - n := ⟨_, rfl⟩
    rw [← hfn] at hfree HFN
    clear hdr hfn
    refine wp_region_held_drew (S := fun w' => Fr (fun _ => False) w6.drew w') (by kernel_rfl) (Fr.refl _ _) (fun hHeld => ?_)
    clear hHeld
    refine tA 0 (some 92) rfl (Fr.refl _ _) ?_
    refine tA 2 (some 94) rfl (Fr.refl _ _) ?_
    refine tA 3 (some 95) rfl (Fr.refl _ _) ?_
    refine tL 4 (some 96) (v := (.int .i64 (fn : Int))) rfl ?yu4 (Fr.refl _ _) ?ru4
    case yu4 =>
     intro wq hSw
     exact step_sub15 (x := .tmp 94) (y := .tmp 95) rfl rfl rfl HFN.out
    try simp only [Act.put,sA,sB,sC]
    refine rW 1 (some 93) rfl fun K hK => ?_
    go_simp
    refine hfree.mono ?_; clear hfree; rintro e w7 ⟨rfl, hb⟩
    have hfr : Fr (fun _ => False) w6.drew w7 := Fr.of_below hb
    have LB := qH (LB.out.later DK hb)
    have VM := qH (VM.out.fr (Fr.of_below hb : Fr (fun _ => False) _ _) (fun _ h => h.elim) (fun h => h))
    have HSP := qH (HSP.out.below hb (Nat.le_refl _))
    have YB := qH (YB.out.later hb)
    clear hb
    go_wp2_with fail
    refine hK.out _ _ hfr (fun hHeld => ?_)
    clear hK K hHeld
    try simp only [Act.put,sA,sB,sC]
    refine wpAnyH_re (S' := fun w' => Fr (fun _ => False) w7 w') (fun w' h => hfr.trans h) ?_
    clear hfr
    refine tL 5 (some 97) (v := (.bool false)) rfl ?yu5 (Fr.refl _ _) ?ru5
    case yu5 =>
     intro wq hSw
     exact step_ne15 (x := .tmp 93) (y := .tmp 96) rfl rfl rfl (decide_eq_true rfl)
    try simp only [Act.put,sA,sB,sC]
    refine tA 6 (some 98) rfl (Fr.refl _ _) ?_
    refine tA 7 (some 99) rfl (Fr.refl _ _) ?_
    refine tL 8 (some 100) (v := (.agg #[.slice (some ⟨bb, 0, none⟩) n n, .int .u64 (g : Int), .int .i64 (q : Int)])) rfl ?yu8 (Fr.refl _ _) ?ru8
    case yu8 =>
     intro wq hSw
     exact step_bl3 (x := .tmp 14) rfl rfl (hSw.row_some YB.out (fun h => h))
    try simp only [Act.put,sA,sB,sC]
    refine rW 9 (some 101) rfl fun K hK => ?_
    go_simp
    have hrt := right15 (some ⟨bb, 0, none⟩) n n (intsOf ps) (g : Int) (q : Int) w7 (Rm.of LB.out.lc.lc.ac.c) HSP.out (by rw [intsOf_length, HPS.out]) (by omega) (by omega)
    rw [HRT.out] at hrt
    refine hrt.mono ?_; clear hrt; rintro e w8 ⟨rfl, hb⟩
    have hfr : Fr (fun _ => False) w7 w8 := Fr.of_below hb
    have LB := qH (LB.out.later DK hb)
    have VM := qH (VM.out.fr (Fr.of_below hb : Fr (fun _ => False) _ _) (fun _ h => h.elim) (fun h => h))
    have YB := qH (YB.out.later hb)
    clear hb
    go_wp2_with fail
    refine hK.out _ _ hfr (fun hHeld => ?_)
    clear hK K hHeld
    try simp only [Act.put,sA,sB,sC]
    refine wpAnyH_re (S' := fun w' => Fr (fun _ => False) w8 w') (fun w' h => hfr.trans h) ?_
    clear hfr
    refine tA 10 (some 102) rfl (Fr.refl _ _) ?_
    refine tA 11 (some 103) rfl (Fr.refl _ _) ?_
    refine tA 12 (some 104) rfl (Fr.refl _ _) ?_
    refine tA 13 (some 105) rfl (Fr.refl _ _) ?_
    refine tL 14 (some 106) (v := ?vu14) rfl ?yu14 (Fr.refl _ _) ?ru14
    case yu14 =>
     intro wq hSw
     (try dsimp only at hSw)
     have hq := hSw.cell_some (YB.out.c2) (fun h => h)
     go_simp <;> with_reducible rfl
    try simp only [Act.put,sA,sB,sC]
    refine tA 15 (some 107) rfl (Fr.refl _ _) ?_
    refine tA 16 (some 108) rfl (Fr.refl _ _) ?_
    refine tA 17 (some 109) rfl (Fr.refl _ _) ?_
    refine tL 18 (some 110) (v := ?vu18) rfl ?yu18 (Fr.refl _ _) ?ru18
    case yu18 =>
     intro wq hSw
     (try dsimp only at hSw)
     have hq := hSw.cell_some (HCW.out _ LB.out.lc.lc.bel) (fun h => h)
     go_simp <;> with_reducible rfl
    try simp only [Act.put,sA,sB,sC]
    refine tA 19 (some 111) rfl (Fr.refl _ _) ?_
    refine tL 20 (some 112) (v := (.bool false)) rfl ?yu20 (Fr.refl _ _) ?ru20
    case yu20 =>
     intro wq hSw
     exact step_ne15 (x := .tmp 106) (y := .tmp 111) rfl rfl rfl (decide_eq_true rfl)
    try simp only [Act.put,sA,sB,sC]
    refine tA 21 (some 113) rfl (Fr.refl _ _) ?_
    refine tD ?_
    have hcw := HCW.out w8 LB.out.lc.lc.bel
    go_wp2_with (first
     | (refine at_dst11 (d := 115) ?_; refine wpList_step11 (o := ⟨some 115, _, _, _, _, _⟩) rfl _ w8 (step_bl3 (x := .tmp 14) rfl rfl YB.out) ?_)
     | (refine at_dst11 (d := 116) ?_; refine wpList_buildSlice (o := ⟨some 116, _, _, _, _, _⟩) rfl 48 25 1 #[(0, .tmp 115)] rfl #[.slice (some ⟨bb, 0, none⟩) n n, .int .u64 (g : Int), .int .i64 (q : Int)] ib (.agg #[.slice none 0 0, .int .u64 0, .int .i64 0]) Tryz.underlying48 Ib0.out Ib1.out (by rw [Ib2.out]; decide) (by rw [Ib2.out]; decide) (by rw [Ib2.out]; exact fill3a _ _ rfl) ?_)
     | (at_builtin; refine wpList_append_rn (o := ⟨some 117, _, _, _, _, _⟩) rfl (.tmp 114) (.tmp 116) 48 48 rfl ib (.agg #[.slice none 0 0, .int .u64 0, .int .i64 0]) 40 Tryz.underlying48 Ib0.out Ib1.out Ib2.out Ib3.out rfl (by decide) rfl (LB.out.all.later (bl_below w8 (some ⟨bb, 0, none⟩) n n (g : Int) (q : Int))) _ 1 (blC v) rfl (by rw [HVC.out.1]; exact (Sl.made w8 #[.slice (some ⟨bb, 0, none⟩) n n, .int .u64 (g : Int), .int .i64 (q : Int)] 25 3 1 rfl (by decide)).src Tryz.underlying48 (by decide) (by rw [← HVC.out.1]; exact blC_one v)) (by have := HVN.out; unfold maxLen; omega) (by have := HVN.out; omega) ?_))
    intro A7 c7 w9 hrn hfb hor
    have hb8 := bl_below w8 (some ⟨bb, 0, none⟩) n n (g : Int) (q : Int)
    have hfA : Fr (Bk A0) w8 w9 := (Fr.of_below hb8).trans hfb
    have HOA := qH (show ∀ x, Bk A7 x → Bk A0 x ∨ w8.heap.size ≤ x from fun x hx => by
     rcases hor with e | e
     ·exact .inl (e ▸ hx)
     ·rw [e] at hx
      obtain ⟨o, hx⟩ := hx
      injection hx with hx
      injection hx with hx _
      have := hb8.size
      exact .inr (by omega))
    have HD9 := qH (LB.out.had1 hfA)
    have hcw9 := HCW.out w9 (LB.out.lc.lc.bel.trans (hfA.below LB.out.lc.lc.bel.size (fun x hx => (LB.out.aoff x (.inl hx)).1)))
    have HRA := qH hrn
    have HFA := qH hfA
    have HVN2 := qH (show vs.length ≤ 1048576 from by have := HVN.out; omega)
    clear hrn hfb hor hb8 hfA hcw
    go_wp2_with (at_builtin; refine wpList_append_made (w := w9) (T := 49) (v := .slice Ar q cr) rfl (.tmp 118) (.tmp 123) 43 43 rfl iu (.slice none 0 0) 24 Tryz.underlying43 Tryz.underlying43 Iu0.out Iu1.out Iu2.out Iu3.out rfl (by decide) rfl HD9.out rfl rfl HVN2.out ?_)
    intro A8 c8 w10 hrn hfb hor
    have LB := qH (LB.out.push DK VM.out HRA.out HFA.out HOA.out (by rw [HVC.out.2]; exact hrn) hfb (fun x hx => by
     rcases hor with e | ⟨y, e, hy⟩
     ·exact .inl (e ▸ hx)
     ·rw [e] at hx
      obtain ⟨o, hx⟩ := hx
      injection hx with hx
      injection hx with hx _
      exact .inr (by omega)))
    clear hrn hfb hor hcw9
    go_wp2_with fail
    go_roundw
    case rel => exact ⟨i + 1, S4, xs', p', vs ++ [v], A7, A8, c7, c8, by omega, by rw [List.length_append]; rfl, by rw [List.length_append]; rfl, by go_num, LB.out, IT.out⟩
    case measure => simp [intOf]; omega
   case neg =>
    have hnl := least_no15 (n := p.n) (f := p.f) (m := n) (by rw [← HCL.out, IT.out.n]; omega)
    have hp := put15_no DK LB.out.lc HT1.out Ar q cr n hq4 HN.out.symm hnl
    clear hnl
    go_wp2_with fail
    refine hp.mono ?_; clear hp; rintro e w4 ⟨rfl, hLc, hf⟩
    have LB := qH (LB.out.put hLc (hf.mono (fun x hx => .inr hx)) (fun x hx => .inl hx))
    have sz := qH (size_bl3 (A := none) (n := 0) (c := 0) (g := 0) (z := 0))
    clear hLc hf hcw S3
    go_wp2_with (refine at_none ?_; refine wpList_store_row (o := ⟨none, _, _, _, _, _⟩) rfl 25 (.tmp 14) (.tmp 67) rfl w4.heap.size #[.slice none 0 0, .int .u64 0, .int .i64 0] rfl rfl 25 _ (heap_alloc_last _ _) sz.out rfl one_bl3 ?_; rw [World.setRow_alloc_new])
    have hb := bl_below w4 none 0 0 0 0
    obtain ⟨w5, hw⟩ : ∃ x, x = w4.alloc (.cells #[.slice none 0 0, .int .u64 0, .int .i64 0] 25) := ⟨_, rfl⟩
    rw [← hw] at hb ⊢
    clear hw
    have LB := qH (LB.out.later DK hb)
    clear hb sz
    have hnf : fr < n := by have := HNL.out; omega
    refine wp_region_held_drew (S := fun w' => Fr (fun _ => False) w5.drew w') (by kernel_rfl) (Fr.refl _ _) (fun hHeld => ?_)
    clear hHeld
    refine tA 0 (some 69) rfl (Fr.refl _ _) ?_
    refine tL 1 (some 70) (v := ?vs1) rfl ?ys1 (Fr.refl _ _) ?rs1
    case ys1 =>
     intro wq hSw
     (try dsimp only at hSw)
     have hq := hSw.cell_some (HKW.out _ LB.out.lc.lc.bel.drew) (fun h => h)
     go_simp <;> with_reducible rfl
    try simp only [Act.put,sA,sB,sC]
    refine tA 2 (some 71) rfl (Fr.refl _ _) ?_
    refine tA 3 (some 72) rfl (Fr.refl _ _) ?_
    refine tA 4 (some 73) rfl (Fr.refl _ _) ?_
    refine tL 5 (some 74) (v := ?vs5) rfl ?ys5 (Fr.refl _ _) ?rs5
    case ys5 =>
     intro wq hSw
     (try dsimp only at hSw)
     have hq := hSw.cell_some (HCW.out _ LB.out.lc.lc.bel.drew) (fun h => h)
     go_simp <;> with_reducible rfl
    try simp only [Act.put,sA,sB,sC]
    refine tA 6 (some 75) rfl (Fr.refl _ _) ?_
    refine rW 7 (some 76) rfl fun K hK => ?_
    go_simp
    have hh := rcount15 Kn HG0.out.1 (by have := HG0.out; omega) (q : Int) (by omega) (by omega) w5.drew
    rw [show ((q : Int)).toNat = q from Int.toNat_natCast q, ← HN.out] at hh
    refine hh.mono ?_; clear hh; rintro e v9 ⟨rfl, hw⟩
    obtain rfl : w5.drew = v9 := hw.symm
    have hfr : Fr (fun _ => False) w5.drew w5.drew := Fr.refl _ _
    go_wp2_with fail
    refine hK.out _ _ hfr (fun hHeld => ?_)
    clear hK K hHeld
    try simp only [Act.put,sA,sB,sC]
    refine wpAnyH_re (S' := fun w' => Fr (fun _ => False) w5.drew w') (fun w' h => hfr.trans h) ?_
    clear hfr
    refine tA 8 (some 16) rfl (Fr.refl _ _) ?_
    refine tD ?_
    go_wp2_with fail
    obtain ⟨w6, hw6⟩ : ∃ x, x = w5.drew := ⟨_, rfl⟩
    have hb : Below w5.heap.size w5 w6 := hw6 ▸ (Below.drew (Below.refl _ _))
    rw [← hw6]
    clear hw6
    have LB := qH (LB.out.later DK hb)
    have hfree := free_any U P p w6 LB.out.lc.pl (LB.out.lc.tz HT1.out)
    rw [← HCL.out, IT.out.n, show (Cn : Int) - (cl : Int) = (fr : Int) from by have := HNL.out; omega] at hfree
    clear hb
    refine hfree.mono ?_; clear hfree; rintro e w7 ⟨rfl, hb⟩
    have LB := qH (LB.out.later DK hb)
    clear hb
    go_wp2_with fail
    go_roundw
    case rel => exact ⟨i + 1, S', xs, p, vs, A0, A4, c0, c4, by omega, rfl, rfl, by go_num, LB.out, ⟨IT.out.pv, IT.out.go, Wl.mono13 IT.out.wl (by omega), by have := IT.out.t; omega, IT.out.n, IT.out.a, by have := IT.out.len; omega⟩⟩
    case measure => simp [intOf]; omega
  ·obtain rfl : i = L := by omega
   have hmk0 := HKM.out wr LB.out.lc.lc.bel
   have hdr : Below wr.heap.size wr wr.drew := (Below.drew (Below.refl _ _))
   have LB := qH (LB.out.later DK hdr)
   have hfl := arflush_any DK LB.out.lc.lc.ac.a (Wl.mono13 IT.out.wl (by have := L8.out; omega)) (by rw [LB.out.lc.lc.ac.len]; have := HG0.out; omega)
   rw [flushN_all IT.out.go, LB.out.lc.lc.ac.len] at hfl
   have HNB := qH (show ¬ S' w.heap.size from fun x => by have := LB.out.lc.lc.lo _ x; have := HB.out; omega)
   have HKM1 := qH (show IntKind.i64.wrap ((Kn : Int) + (M : Int)) = ((Kn + M : Nat) : Int) from by have := HG0.out; rw [IntKind.wrap_i64]; omega)
   clear hmk0 hdr
   go_wp2_with fail
   refine wp_region_held_drew (S := fun w' => Fr (fun b => S' b) wr.drew w') (by kernel_rfl) (Fr.refl _ _) (fun hHeld => ?_)
   clear hHeld
   refine tA 0 (some 125) rfl (Fr.refl _ _) ?_
   refine tA 2 (some 127) rfl (Fr.refl _ _) ?_
   refine tL 3 (some 128) (v := ?vv3) rfl ?yv3 (Fr.refl _ _) ?rv3
   case yv3 =>
    intro wq hSw
    (try dsimp only at hSw)
    have hq := hSw.cell_some (HKW0.out wr.drew LB.out.lc.lc.bel) HNB.out
    go_simp <;> with_reducible rfl
   try simp only [Act.put,sA,sB,sC]
   refine tA 4 (some 129) rfl (Fr.refl _ _) ?_
   refine tL 5 (some 130) (v := ?vv5) rfl ?yv5 (Fr.refl _ _) ?rv5
   case yv5 =>
    intro wq hSw
    (try dsimp only at hSw)
    have hq := hSw.cell_some (HKM.out wr.drew LB.out.lc.lc.bel) HNB.out
    go_simp <;> with_reducible rfl
   try simp only [Act.put,sA,sB,sC]
   refine tL 6 (some 131) (v := (.int .i64 ((Kn + M : Nat) : Int))) rfl ?yv6 (Fr.refl _ _) ?rv6
   case yv6 =>
    intro wq hSw
    exact step_add15 (x := .tmp 128) (y := .tmp 130) rfl rfl rfl HKM1.out
   try simp only [Act.put,sA,sB,sC]
   refine rW 1 (some 126) rfl fun K hK => ?_
   go_simp
   refine hfl.mono ?_; clear hfl; rintro e w4 ⟨rfl, hm⟩
   have hfr : Fr (fun b => S' b) wr.drew w4 := by
    obtain ⟨_, _, hx⟩ := hm
    exact hx.1
   obtain ⟨S4, hLB⟩ := LB.out.mut hm flushS_len (flushS_ns LB.out.lc.lc.ac.n) (flushS_idle LB.out.lc.lc.ac.len (fun d x hx => (LB.out.lc.lc.ac.n d x hx).1)).wl0
   have LB := qH hLB
   clear hm hLB
   go_wp2_with fail
   refine hK.out _ _ hfr (fun hHeld => ?_)
   clear hK K hHeld
   try simp only [Act.put,sA,sB,sC]
   refine wpAnyH_re (S' := fun w' => Fr (fun b => S' b) w4 w') (fun w' h => hfr.trans h) ?_
   clear hfr
   refine tL 7 (some 132) (v := (.bool false)) rfl ?yv7 (Fr.refl _ _) ?rv7
   case yv7 =>
    intro wq hSw
    exact step_ne15 (x := .tmp 126) (y := .tmp 131) rfl rfl rfl (decide_eq_true rfl)
   try simp only [Act.put,sA,sB,sC]
   refine tD ?_
   go_wp2_with fail
   have PVF := qH IT.out.pv.flush
   have hv8 : vs.length ≤ 8 := by have := IT.out.len; have := L8.out; omega
   obtain ⟨xf, hxf⟩ : ∃ xf, xf = flushS xs (Kn + M) := ⟨_, rfl⟩
   rw [← hxf] at LB PVF
   have hLBz : Lb15 Rep w1 w4 S4 A C Kn M F T (Fs + Cn) (failZ gl xf 0) U P p vs A0 A4 c0 c4 := LB.out
   clear hxf IT LB HNB HKM1
   go_loopw [17] (fun tv wx => ∃ (t : Nat) (S5 : Nat → Prop), t ≤ G ∧ tv = .int .i64 (t : Int) ∧ Lb15 Rep w1 wx S5 A C Kn M F T (Fs + Cn) (failZ gl xf t) U P p vs A0 A4 c0 c4) (fun tv _ => G - (intOf tv).toNat)
   case atStart => exact ⟨0, S4, by omega, rfl, hLBz⟩
   case round =>
    clear hLBz
    obtain ⟨t, S5, ht, rfl, hlb⟩ := hrel
    have LB := qH hlb
    clear hlb
    by_cases htg : t < G
    ·have hti : (t : Int) < (G : Int) := by omega
     have t1 : (0 : Int) ≤ (t : Int) := by omega
     obtain ⟨b2, o2, rfl, hc2⟩ := GS1.out.at_ htg
     have htl : t < gl.length := by rw [← HG.out]; exact htg
     have hz := hc2 t _ (icells_get gl t htl)
     have hgd : gl.getD t 0 = gl[t] := by simp [htl]
     rw [← hgd] at hz
     have hzw := (LB.out.lc.lc.bel.cell (World.block_lt_of_cell? w1 _ hz)).trans hz
     have hfa := arfail_any DK LB.out.lc.lc.ac.a (by rw [LB.out.lc.lc.ac.len]; have := HG0.out; omega) (gl.getD t 0)
     obtain ⟨z, hzz⟩ : ∃ z, z = gl.getD t 0 := ⟨_, rfl⟩
     rw [← hzz] at hzw hfa
     have HZ := qH hzz
     clear hc2 hz hgd hzz htl
     go_wp2_with fail
     refine hfa.mono ?_; clear hfa hzw; rintro e w5 ⟨rfl, hm⟩
     rw [show onD (failZ gl xf t) z (fun x => x.fail) = failZ gl xf (t + 1) from by rw [HZ.out]; rfl] at hm
     obtain ⟨S6, hLB⟩ := LB.out.mut hm ((failZ_len (t + 1)).trans (failZ_len t).symm) (fun d x hx => by
      rw [failZ] at hx
      exact failZ_ns (l := [gl.getD t 0]) LB.out.lc.lc.ac.n 1 d x hx) (by
      rw [failZ]
      exact failZ_wl (l := [gl.getD t 0]) LB.out.lc.lc.ac.wl 1)
     have LB := qH hLB
     clear hm hLB
     go_wp2_with fail
     go_roundw
     case rel => exact ⟨t + 1, S6, by omega, by go_num, LB.out⟩
     case measure => simp [intOf]; omega
    ·obtain rfl : t = G := by omega
     have HGOOD := qH (show Kn ≤ cntG (Kn + M) (goodZ gl gl.length) from by
      have := cntG_goodZ (n := Kn + M) (l := gl) gl.length (Nat.le_refl _)
      have := HG.out
      omega)
     rw [HG.out] at LB
     go_wp2_with fail
     go_loopw [18] (fun sv wy => ∃ s : Nat, s ≤ vs.length ∧ sv = .int .i64 (s : Int) ∧ Lb15 Rep w1 wy S5 A C Kn M F T (Fs + Cn) (failZ gl xf gl.length) U P p vs A0 A4 c0 c4) (fun sv _ => vs.length - (intOf sv).toNat)
     case atStart => exact ⟨0, by omega, rfl, LB.out⟩
     case round =>
      clear LB
      obtain ⟨s, hs, rfl, hlb⟩ := hrel
      have LB := qH hlb
      clear hlb
      by_cases hsl : s < vs.length
      ·have hsi : (s : Int) < (vs.length : Int) := by omega
       have s1 : (0 : Int) ≤ (s : Int) := by omega
       have hvs : vs[s]? = some vs[s] := List.getElem?_eq_getElem hsl
       have hvm : vs[s] ∈ vs := List.getElem_mem hsl
       obtain ⟨v, hv⟩ : ∃ v, v = vs[s] := ⟨_, rfl⟩
       rw [← hv] at hvs hvm
       have HVM := qH hvm
       have HVS := qH hvs
       obtain ⟨b0, rfl, hr0⟩ : ∃ b0, A0 = some ⟨b0, 0, none⟩ ∧ Rw _ b0 25 3 vs.length c0 (vs.flatMap blC) := LB.out.all.elim (fun hh => by have := hh.1; omega) id
       have HAT := qH (hr0.blAt hvs)
       have hgt := get15_yes DK SV LB.out.lc.lc.ac v.ps v.g v.b v.b.length v.ps.length v.ps.length (some ⟨v.bb, 0, none⟩) (goodZ gl gl.length) rfl (PVF.out.cnt v hvm).2 (PVF.out.cnt v hvm).1 rfl (PVF.out.ok v hvm) (PVF.out.val v hvm).failZ (hGd _ _ _ HGOOD.out) (by rw [← ncells_icells15]; exact (LB.out.vm v hvm).pl.sl)
       unfold RetGet15 at hgt
       clear hv hvs hvm hr0
       go_wp2_with (refine at_dst11 (d := 157) ?_; refine wpList_step11 (o := ⟨some 157, _, _, _, _, _⟩) rfl (.agg #[.slice (some ⟨v.bb, 0, none⟩) v.ps.length v.ps.length, .int .u64 (v.g : Int), .int .i64 (v.b.length : Int)]) _ (step_bm15 (x := .tmp 156) (v := v) rfl rfl HAT.out) ?_)
       refine hgt.mono ?_; clear hgt; rintro e w6 ⟨A5, c5, rfl, hs5, hb5, -⟩
       have LB := qH (LB.out.later DK hb5)
       have S5' := qH hs5
       obtain ⟨b4, rfl, hr4⟩ : ∃ b4, A4 = some ⟨b4, 0, none⟩ ∧ Rw w6 b4 49 1 vs.length c4 (vs.map hdC) := LB.out.had.elim (fun hh => by have := hh.1; omega) id
       have HC4 := qH (hr4.cell (j := s) (v := .slice v.A v.b.length v.c) (by rw [List.getElem?_map, HVS.out]; rfl))
       have SV5 := qH (LB.out.vm v HVM.out).sl
       clear hs5 hb5 hr4 HAT
       go_wp2_with fail
       have S5' := qH S5'.out.drew
       have SV5 := qH SV5.out.drew
       refine wp_region_held_drew (S := fun w' => Fr (fun _ => False) w6.drew w') (by kernel_rfl) (Fr.refl _ _) (fun hHeld => ?_)
       clear hHeld
       refine tA 0 (some 161) rfl (Fr.refl _ _) ?_
       refine tA 1 (some 162) rfl (Fr.refl _ _) ?_
       refine tA 2 (some 163) rfl (Fr.refl _ _) ?_
       refine tA 3 (some 164) rfl (Fr.refl _ _) ?_
       refine tL 4 (some 165) (v := ?vy4) rfl ?yy4 (Fr.refl _ _) ?ry4
       case yy4 =>
        intro wq hSw
        (try dsimp only at hSw)
        have hq := run_string_of (P := Tryz.prog) 49 5 9 Tryz.underlying49 Tryz.underlying5 Tryz.underlying9 (S5'.out.fr hSw (fun _ _ _ _ h => h))
        go_simp <;> with_reducible rfl
       try simp only [Act.put,sA,sB,sC]
       refine tA 5 (some 166) rfl (Fr.refl _ _) ?_
       refine tA 6 (some 167) rfl (Fr.refl _ _) ?_
       refine tA 7 (some 168) rfl (Fr.refl _ _) ?_
       refine tL 8 (some 169) (v := ?vy8) rfl ?yy8 (Fr.refl _ _) ?ry8
       case yy8 =>
        intro wq hSw
        (try dsimp only at hSw)
        have hq := hSw.cell_some (HC4.out) (fun h => h)
        go_simp <;> with_reducible rfl
       try simp only [Act.put,sA,sB,sC]
       refine tL 9 (some 170) (v := ?vy9) rfl ?yy9 (Fr.refl _ _) ?ry9
       case yy9 =>
        intro wq hSw
        (try dsimp only at hSw)
        have hq := run_string_of (P := Tryz.prog) 49 5 9 Tryz.underlying49 Tryz.underlying5 Tryz.underlying9 (SV5.out.fr hSw (fun _ _ _ _ h => h))
        go_simp <;> with_reducible rfl
       try simp only [Act.put,sA,sB,sC]
       refine tA 10 (some 171) rfl (Fr.refl _ _) ?_
       refine tA 11 (some 172) rfl (Fr.refl _ _) ?_
       refine tD ?_
       go_wp2_with fail
       go_roundw
       case rel => exact ⟨s + 1, by omega, by go_num, LB.out.later DK (Below.drew (Below.refl _ _))⟩
       case measure => simp [intOf]; omega
      ·obtain rfl : s = vs.length := by omega
       have BW := qH (B1.out.trans (LB.out.lc.lc.bel.mono B1.out.size))
       go_wp2_with fail
       refine (HK.out _ BW.out).mono ?_; rintro e wz ⟨rfl, hb⟩
       have BZ := qH (BW.out.trans (hb.mono BW.out.size))
       clear hb
       go_wp2_with fail
       go_ret
       exact ⟨rfl, BZ.out⟩
end
end Go.Proofs.YthmneinejfbheaaGreatDoor
