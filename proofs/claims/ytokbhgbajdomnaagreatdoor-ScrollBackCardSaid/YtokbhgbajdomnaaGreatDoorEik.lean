/-
  The statement's function ScrollBack returns true, whatever its arguments. Conditions: drives as 'DrvK' says, stripes as 'StrV' says; both tables read as the row lists them. (Written by gen_eik.py.)
-/
import Derived.Test.YtokbhgbajdomnaaGreatDoorEij
set_option linter.unusedVariables false
set_option maxRecDepth 20000
set_option maxHeartbeats 6400000
namespace Go.Proofs.YtokbhgbajdomnaaGreatDoor
open Go.RowKit Go.Proofs
section
variable {Rep : World → (Nat → Prop) → Nat → Dv → Prop} {Good : Nat → Nat → (Nat → Bool) → Prop}
theorem scrollBack_any (DK : DrvK Rep) (SV : StrV Rep Good) (hGd : ∀ k n G, k ≤ cntG n G → Good k n G) (k m f c : Int) (A1 : Option Addr) (c1 : Nat) (x : List UInt8) (A2 : Option Addr) (c2 : Nat) (x2 : List UInt8) (A3 : Option Addr) (c3 : Nat) (gl : List Int) (w : World) (bk : -9223372036854775808 ≤ k ∧ k < 9223372036854775808) (bm : -9223372036854775808 ≤ m ∧ m < 9223372036854775808)
  (h1 : Sl w 1 A1 x.length c1 (cells x)) (h2 : Sl w 1 A2 x2.length c2 (cells x2)) (h3 : Sl w 1 A3 gl.length c3 (icells gl)) (hN : Nt w) (hT : Tz w) :
  Calls Tryz.prog 4 #[.agg #[.int .i64 k, .int .i64 m, .int .i64 f, .int .i64 c], .slice A1 x.length c1, .slice A2 x2.length c2, .slice A3 gl.length c3] w (SaysTrue w) := by
 have hk := fun W (hb : Below w.heap.size w W) => rolls16_any DK SV (hGd _ _ _ (by decide)) W (hN.keep hb) (hT.keep hb)
 have HK := qH hk
 obtain ⟨q, hq⟩ : ∃ q, q = x.length := ⟨_, rfl⟩
 rw [← hq] at h1 ⊢
 obtain ⟨q2, hq2⟩ : ∃ q2, q2 = x2.length := ⟨_, rfl⟩
 rw [← hq2] at h2 ⊢
 obtain ⟨G, hG⟩ : ∃ G, G = gl.length := ⟨_, rfl⟩
 rw [← hG] at h3 ⊢
 have HQ := qH hq
 have HQ2 := qH hq2
 have HG := qH hG
 have HSX := qH h1
 have HSO := qH h2
 have HSG := qH h3
 have HAX := qH (show ∀ bb o, 0 < q → A1 = some ⟨bb, o, none⟩ → bb < w.heap.size from fun bb o h0 hA => h1.lt (by decide) h0 hA)
 have HAO := qH (show ∀ bb o, 0 < q2 → A2 = some ⟨bb, o, none⟩ → bb < w.heap.size from fun bb o h0 hA => h2.lt (by decide) h0 hA)
 have q63 := h1.lim
 have p63 := h2.lim
 have g63 := h3.lim
 unfold maxLen at q63 p63 g63
 have HNN := qH hN
 have HTT := qH hT
 have hsm := fun W => small15_any k m f c bk bm W
 have Hbl := qH (bs16_below w k m f c)
 have hbx : Bs16 (w.alloc (.cells #[.int .i64 k, .int .i64 m, .int .i64 f, .int .i64 c] 23)) w.heap.size k m f c := heap_alloc_new w _
 have Hbx := qH hbx
 clear hk hN hT hbx hq hq2 hG h1 h2 h3
 by_cases g0 : Small15 k m f c
 case neg =>
  rw [decide_eq_false g0] at hsm
  go_enter Tryz.func4, Tryz.ntmps4
  go_wp2_with (refine at_dst11 (d := 28) ?_; refine wpList_step11 (o := ⟨some 28, _, _, _, _, _⟩) rfl _ _ (step_bs16 (x := .tmp 4) rfl rfl Hbx.out) ?_)
  refine (hsm _).mono ?_; clear hsm; rintro e w1 ⟨rfl, hb⟩
  have X1 := qH (show Bs16 w1 w.heap.size _ _ _ _ from (hb.block _ (block_lt Hbx.out)).trans Hbx.out)
  have B1 := qH (Hbl.out.trans (hb.mono Hbl.out.size))
  clear hb Hbl Hbx
  go_wp2_with fail
  refine (HK.out w1 B1.out).mono ?_; rintro e wz ⟨rfl, hb⟩
  have BZ := qH (B1.out.trans (hb.mono B1.out.size))
  clear hb
  go_wp2_with fail
  go_ret
  exact ⟨rfl, BZ.out⟩
 rw [decide_eq_true g0] at hsm
 obtain ⟨Kn, rfl⟩ : ∃ Kn : Nat, k = (Kn : Int) := ⟨k.toNat, by have := g0.1; omega⟩
 obtain ⟨M, rfl⟩ : ∃ M : Nat, m = (M : Int) := ⟨m.toNat, by have := g0.2.1; omega⟩
 obtain ⟨Fs, rfl⟩ : ∃ Fs : Nat, f = (Fs : Int) := ⟨f.toNat, by have := g0.2.2.2.1; omega⟩
 obtain ⟨Cn, rfl⟩ : ∃ Cn : Nat, c = (Cn : Int) := ⟨c.toNat, by have := g0.2.2.2.2.2.1; omega⟩
 have HG0 := qH (show 1 ≤ Kn ∧ 1 ≤ M ∧ Kn + M ≤ 10 ∧ Fs ≤ 20 ∧ 1 ≤ Cn ∧ Cn ≤ 60 from by obtain ⟨q1, q2, q3, q4, q5, q6, q7⟩ := g0; omega)
 clear g0 bk bm
 by_cases d1 : (2000 : Int) < (q : Int)
 case pos =>
  go_enter Tryz.func4, Tryz.ntmps4
  go_wp2_with (refine at_dst11 (d := 28) ?_; refine wpList_step11 (o := ⟨some 28, _, _, _, _, _⟩) rfl _ _ (step_bs16 (x := .tmp 4) rfl rfl Hbx.out) ?_)
  refine (hsm _).mono ?_; clear hsm; rintro e w1 ⟨rfl, hb⟩
  have X1 := qH (show Bs16 w1 w.heap.size _ _ _ _ from (hb.block _ (block_lt Hbx.out)).trans Hbx.out)
  have B1 := qH (Hbl.out.trans (hb.mono Hbl.out.size))
  clear hb Hbl Hbx
  go_wp2_with fail
  refine (HK.out w1 B1.out).mono ?_; rintro e wz ⟨rfl, hb⟩
  have BZ := qH (B1.out.trans (hb.mono B1.out.size))
  clear hb
  go_wp2_with fail
  go_ret
  exact ⟨rfl, BZ.out⟩
 by_cases d2 : (2000 : Int) < (q2 : Int)
 case pos =>
  go_enter Tryz.func4, Tryz.ntmps4
  go_wp2_with (refine at_dst11 (d := 28) ?_; refine wpList_step11 (o := ⟨some 28, _, _, _, _, _⟩) rfl _ _ (step_bs16 (x := .tmp 4) rfl rfl Hbx.out) ?_)
  refine (hsm _).mono ?_; clear hsm; rintro e w1 ⟨rfl, hb⟩
  have X1 := qH (show Bs16 w1 w.heap.size _ _ _ _ from (hb.block _ (block_lt Hbx.out)).trans Hbx.out)
  have B1 := qH (Hbl.out.trans (hb.mono Hbl.out.size))
  clear hb Hbl Hbx
  go_wp2_with fail
  refine (HK.out w1 B1.out).mono ?_; rintro e wz ⟨rfl, hb⟩
  have BZ := qH (B1.out.trans (hb.mono B1.out.size))
  clear hb
  go_wp2_with fail
  go_ret
  exact ⟨rfl, BZ.out⟩
 by_cases d3 : (M : Int) < (G : Int)
 case pos =>
  go_enter Tryz.func4, Tryz.ntmps4
  go_wp2_with (refine at_dst11 (d := 28) ?_; refine wpList_step11 (o := ⟨some 28, _, _, _, _, _⟩) rfl _ _ (step_bs16 (x := .tmp 4) rfl rfl Hbx.out) ?_)
  refine (hsm _).mono ?_; clear hsm; rintro e w1 ⟨rfl, hb⟩
  have X1 := qH (show Bs16 w1 w.heap.size _ _ _ _ from (hb.block _ (block_lt Hbx.out)).trans Hbx.out)
  have B1 := qH (Hbl.out.trans (hb.mono Hbl.out.size))
  clear hb Hbl Hbx
  have cM := X1.out.c1
  go_wp2_with fail
  refine (HK.out w1 B1.out).mono ?_; rintro e wz ⟨rfl, hb⟩
  have BZ := qH (B1.out.trans (hb.mono B1.out.size))
  clear hb
  go_wp2_with fail
  go_ret
  exact ⟨rfl, BZ.out⟩
 go_enter Tryz.func4, Tryz.ntmps4
 go_wp2_with (refine at_dst11 (d := 28) ?_; refine wpList_step11 (o := ⟨some 28, _, _, _, _, _⟩) rfl _ _ (step_bs16 (x := .tmp 4) rfl rfl Hbx.out) ?_)
 refine (hsm _).mono ?_; clear hsm; rintro e w1 ⟨rfl, hb⟩
 have X1 := qH (show Bs16 w1 w.heap.size _ _ _ _ from (hb.block _ (block_lt Hbx.out)).trans Hbx.out)
 have B1 := qH (Hbl.out.trans (hb.mono Hbl.out.size))
 clear hb Hbl Hbx
 have cM := X1.out.c1
 go_wp2_with (refine at_dst11 (d := 50) ?_; refine wpList_step11 (o := ⟨some 50, _, _, _, _, _⟩) rfl _ w1 (step_bs16 (x := .tmp 4) rfl rfl X1.out) ?_)
 refine (made15_any DK Kn M Fs Cn HG0.out.1 HG0.out.2.1 (by have := HG0.out; omega) HG0.out.2.2.2.2.1 (by have := HG0.out; omega) (by have := HG0.out; omega) w1).mono ?_; intro e w2 hm
 obtain ⟨A, S, C, F, T, U, P, rfl, hLc, hb2, hlo⟩ := Lc15.made hm (Below.refl _ _) (HNN.out.keep B1.out)
 have L := qH hLc
 have HT1 := qH (HTT.out.keep B1.out)
 have HB := qH (show w.heap.size < w1.heap.size from block_lt X1.out)
 have HXW := qH (show ∀ W, Below w1.heap.size w1 W → Bs16 W w.heap.size (Kn : Int) (M : Int) (Fs : Int) (Cn : Int) from fun W hb => X1.out.later HB.out hb)
 obtain ⟨r, hr⟩ : ∃ r, 44 * Kn = r + 10 := ⟨44 * Kn - 10, by have := HG0.out; omega⟩
 have HR := qH hr
 have HRB := qH (show 34 ≤ r from by have := HG0.out; omega)
 clear cM hm hLc hb2 hlo hr
 go_wp2_with fail
 obtain ⟨n, hn⟩ : ∃ n, n = countS r q := ⟨_, rfl⟩
 have HN := qH hn.symm
 have HN6 := qH (show n ≤ 60 ∧ 0 < n from by rw [hn]; exact ⟨countS_small HRB.out (by omega), countS_pos⟩)
 clear hn
 have hrc := fun W => rcount16 Kn r HR.out (by have := HG0.out; omega) (q : Int) (by omega) (by omega) W
 rw [cntZ_nat, HN.out] at hrc
 by_cases hen : n ≤ Cn
 case neg =>
  have hsh := least_no15 (n := Cn) (m := n) (f := (newP Fs Cn).f) (by rw [cnt16]; omega)
  refine (put16_few DK L.out HT1.out r HR.out A1 q c1 n (by omega) HN.out (by have := HN6.out; omega) hsh).mono ?_; rintro e w3 ⟨rfl, hL, -⟩
  have L := qH hL
  have sz := qH (size_sc16 0 0 0 0)
  have hb : Below w3.heap.size w3 (w3.alloc (.cells #[.int .i64 0, .int .u64 0, .int .i64 0, .int .i64 0] 38)) := (Below.refl _ _).alloc (Nat.le_refl _) _
  have cK := (HXW.out _ (L.out.lc.bel.trans (hb.mono L.out.lc.bel.size))).c0
  have L := qH (L.out.later DK hb)
  clear hb hsh hL
  go_wp2_with (refine at_none ?_; refine wpList_store_row (o := ⟨none, _, _, _, _, _⟩) rfl 38 (.tmp 12) (.tmp 61) rfl w3.heap.size #[.int .i64 0, .int .u64 0, .int .i64 0, .int .i64 0] rfl rfl 38 _ (heap_alloc_last _ _) sz.out rfl one_sc16 ?_; rw [World.setRow_alloc_new])
  obtain ⟨w4, hw4⟩ : ∃ x, x = w3.alloc (.cells #[.int .i64 0, .int .u64 0, .int .i64 0, .int .i64 0] 38) := ⟨_, rfl⟩
  rw [← hw4] at L ⊢
  clear hw4 sz
  refine (hrc _).mono ?_; clear hrc cK; rintro e w5 ⟨rfl, hw5⟩
  obtain rfl : w4 = w5 := hw5.symm
  have hdr : Below w4.heap.size w4 w4.drew := (Below.drew (Below.refl _ _))
  have c3' := (HXW.out w4 L.out.lc.bel).c3
  go_wp2_with fail
  clear c3'
  have L := qH (L.out.later DK hdr)
  have CC := qH (HXW.out w4.drew L.out.lc.bel).c3
  have hfree := free_any U P (newP Fs Cn) w4.drew L.out.pl (L.out.tz HT1.out)
  rw [show (newP Fs Cn).n = Cn from rfl, cnt16, show (Cn : Int) - ((0 : Nat) : Int) = (Cn : Int) from by omega] at hfree
  clear hdr
  refine wp_region_held_drew (S := fun w' => Fr (fun _ => False) w4.drew w') (by kernel_rfl) (Fr.refl _ _) (fun hHeld => ?_)
  clear hHeld
  refine tA 0 (some 73) rfl (Fr.refl _ _) ?_
  refine tA 1 (some 74) rfl (Fr.refl _ _) ?_
  refine tA 2 (some 75) rfl (Fr.refl _ _) ?_
  refine tA 3 (some 76) rfl (Fr.refl _ _) ?_
  refine tA 4 (some 77) rfl (Fr.refl _ _) ?_
  refine tA 5 (some 78) rfl (Fr.refl _ _) ?_
  refine tA 6 (some 79) rfl (Fr.refl _ _) ?_
  refine tA 7 (some 80) rfl (Fr.refl _ _) ?_
  refine tA 8 (some 81) rfl (Fr.refl _ _) ?_
  refine tA 10 (some 83) rfl (Fr.refl _ _) ?_
  refine tL 11 (some 84) (v := ?vf11) rfl ?yf11 (Fr.refl _ _) ?rf11
  case yf11 =>
   intro wq hSw
   (try dsimp only at hSw)
   have hq := hSw.cell_some (CC.out) (fun h => h)
   go_simp <;> with_reducible rfl
  try simp only [Act.put,sA,sB,sC]
  refine rW 9 (some 82) rfl fun K hK => ?_
  go_simp
  refine hfree.mono ?_; clear hfree; rintro e w6 ⟨rfl, hb⟩
  have hfr : Fr (fun _ => False) w4.drew w6 := Fr.of_below hb
  have L := qH (L.out.later DK hb)
  have CC := qH (hfr.cell_some CC.out (fun h => h))
  clear hb
  go_wp2_with fail
  refine hK.out _ _ hfr (fun hHeld => ?_)
  clear hK K hHeld
  try simp only [Act.put,sA,sB,sC]
  refine wpAnyH_re (S' := fun w' => Fr (fun _ => False) w6 w') (fun w' h => hfr.trans h) ?_
  clear hfr
  refine tL 12 (some 85) (v := (.bool true)) rfl ?yf12 (Fr.refl _ _) ?rf12
  case yf12 =>
   intro wq hSw
   exact step_eq15 (x := .tmp 82) (y := .tmp 84) rfl rfl rfl (decide_eq_true rfl)
  try simp only [Act.put,sA,sB,sC]
  refine tA 13 (some 86) rfl (Fr.refl _ _) ?_
  refine tA 14 (some 87) rfl (Fr.refl _ _) ?_
  refine rW 15 (some 88) rfl fun K hK => ?_
  go_simp
  have BL := qH (B1.out.trans (L.out.lc.bel.mono B1.out.size))
  refine (HK.out _ BL.out).mono ?_; rintro e w7 ⟨rfl, hb⟩
  have hfr : Fr (fun _ => False) w6 w7 := Fr.of_below hb
  have BZ := qH (BL.out.trans (hb.mono BL.out.size))
  clear hb
  go_wp2_with fail
  refine hK.out _ _ hfr (fun hHeld => ?_)
  clear hK K hHeld
  try simp only [Act.put,sA,sB,sC]
  refine wpAnyH_re (S' := fun w' => Fr (fun _ => False) w7 w') (fun w' h => hfr.trans h) ?_
  clear hfr
  refine tA 16 (some 89) rfl (Fr.refl _ _) ?_
  refine tA 17 (some 8) rfl (Fr.refl _ _) ?_
  refine tD ?_
  go_wp2_with fail
  go_ret
  exact ⟨rfl, BZ.out⟩
 case pos =>
  have hlt12 := least_yes15 (n := Cn) (m := n) (f := (newP Fs Cn).f) (by rw [cnt16]; exact hen)
  obtain ⟨l, hl⟩ : ∃ l, l = leastD Cn (newP Fs Cn).f (n : Int) := ⟨_, rfl⟩
  rw [← hl] at hlt12
  have HLT := qH hlt12
  have HPL := qH (show (placesL (newP Fs Cn) l).length = n from by rw [placesL, List.length_map, hlt12.len])
  have hvo := vok15 (p := newP Fs Cn) (k := Kn) (N := Fs + Cn) (g := genP (newP Fs Cn)) hlt12 HG0.out.1 (by have := HG0.out; omega) (by have := HG0.out; omega) (Nat.le_refl _) (by have := HN6.out; show 0 * 1048576 + 0 + n ≤ _; omega)
  have HVO := qH hvo
  have HNS := qH (show ∀ (d : Nat) (x : Dv), (List.replicate (Kn + M) (Dv.new (Fs + Cn)))[d]? = some x → x.Ok ∧ x.n = Fs + Cn from fun d x h => L.out.lc.ac.n d x h)
  have hp := put16_yes (c := 0) DK SV L.out HT1.out r HR.out x A1 q c1 n l HQ.out.symm (by omega) (HSX.out.below (B1.out.trans (L.out.lc.bel.mono B1.out.size)) (Nat.le_refl _)) (fun bb o h0 hA => ⟨fun x => by have := HAX.out bb o h0 hA; have := L.out.lc.lo _ x; have := HB.out; omega, fun x => by have := HAX.out bb o h0 hA; have := L.out.ulo _ x; have := HB.out; omega⟩) HN.out (by have := HN6.out; omega) hl.symm hlt12 (by have := HN6.out; show 0 + n ≤ _; omega) (by have := HG0.out; omega) (Nat.le_refl _) (Bare.new (hvo.at_ (n - 1) (by rw [HPL.out]; have := HN6.out; omega))) Idle.new.wl0 (by have := HN6.out; omega)
  unfold RetPut16 at hp
  rw [← HQ.out] at hp
  obtain ⟨ps, hps⟩ : ∃ ps, ps = placesL (newP Fs Cn) l := ⟨_, rfl⟩
  rw [← hps] at hp HVO HPL
  obtain ⟨g, hg⟩ : ∃ g, g = genP (newP Fs Cn) := ⟨_, rfl⟩
  rw [← hg] at hp HVO
  have HPSL := qH hps
  obtain ⟨p0, hp0⟩ : ∃ p0, p0 = ps.getD 0 0 := ⟨_, rfl⟩
  rw [← hp0] at hp
  have HP0 := qH hp0
  clear hlt12 hvo hl hps hg hp0
  refine hp.mono ?_; clear hp; rintro e w3 ⟨bb, S3, rfl, hrb, hbb, hnb, hL, hf, hS3⟩
  have HUB := qH (show ¬ U bb from fun x => by have := L.out.pl.lt _ x; omega)
  have hval := putT_all (k := Kn) (n := Kn + M) (g := g) HVO.out (leaf_ok (g := g) (ps := ps) (b := x) HG0.out.1) (List.length_replicate ..) HNS.out new_gone
  have hgo := putT_gone (k := Kn) (n := Kn + M) (kd := 4) (ps := ps) (g := g) (T := leafL Kn ps g x) (xs := List.replicate (Kn + M) (Dv.new (Fs + Cn))) new_gone n
  have hwl := putT_wl (k := Kn) (n := Kn + M) (kd := 4) (ps := ps) (g := g) (T := leafL Kn ps g x) (c := 0) (xs := List.replicate (Kn + M) (Dv.new (Fs + Cn))) Idle.new.wl0 n
  have hbr : ∀ p, p < Fs + Cn → p ∉ ps → Bare (putT Kn (Kn + M) 4 ps g (leafL Kn ps g x) (List.replicate (Kn + M) (Dv.new (Fs + Cn))) n) Kn (Kn + M) (Fs + Cn) p := fun p hp hm => (Bare.new hp).put HVO.out (leaf_ok HG0.out.1) hm n (by rw [HPL.out]; exact Nat.le_refl _)
  rw [HPL.out] at hval
  obtain ⟨xs1, hxs1⟩ : ∃ xs1, xs1 = putT Kn (Kn + M) 4 ps g (leafL Kn ps g x) (List.replicate (Kn + M) (Dv.new (Fs + Cn))) n := ⟨_, rfl⟩
  rw [← hxs1] at hval hgo hwl hbr hL
  have HVAL := qH hval
  have HGO := qH hgo
  have HWL := qH hwl
  have HBR := qH hbr
  have hcn : cntL Cn (takenP (newP Fs Cn) l n).f = n := by
   have := takeAll_cnt (p := newP Fs Cn) HLT.out
   rw [show (newP Fs Cn).n = Cn from rfl, cnt16] at this
   exact (show cntL Cn (takenP (newP Fs Cn) l n).f = 0 + n from this).trans (Nat.zero_add n)
  have htk : ∀ x, x ∈ ps → ∃ j, j < Cn ∧ x = Fs + j ∧ (takenP (newP Fs Cn) l n).f j = true := fun x hx => by
   rw [HPSL.out] at hx
   obtain ⟨j, hj, e⟩ := placesL_mem16 hx
   obtain ⟨i, hi, e2⟩ := mem_getD15 hj
   rw [HLT.out.len] at hi
   have hfr := HLT.out.free i hi
   rw [e2] at hfr
   exact ⟨j, hfr.1, e, takeAll_new (p := newP Fs Cn) hfr.1 hj⟩
  obtain ⟨pp, hpp⟩ : ∃ pp, pp = takenP (newP Fs Cn) l n := ⟨_, rfl⟩
  have hpf : pp.n = Cn ∧ pp.a = Fs ∧ pp.e = 0 ∧ pp.t = n := by rw [hpp]; exact ⟨rfl, rfl, rfl, Nat.zero_add n⟩
  rw [← hpp] at hcn htk hL
  have HCN := qH hcn
  have HTK := qH htk
  have HPF := qH hpf
  have L := qH hL
  have sz := qH (size_sc16 (p0 : Int) (g : Int) (n : Int) (q : Int))
  obtain ⟨hro, hb⟩ := Ro16.new (a := (p0 : Int)) (g := (g : Int)) (z := (q : Int)) DK hL hrb hnb HUB.out
  clear hrb hbb hnb hL hf hS3 hval hgo hwl hbr hxs1 hcn htk hpp hpf
  have cK := (HXW.out _ (L.out.lc.bel.trans (hb.mono L.out.lc.bel.size))).c0
  go_wp2_with (refine at_none ?_; refine wpList_store_row (o := ⟨none, _, _, _, _, _⟩) rfl 38 (.tmp 12) (.tmp 61) rfl w3.heap.size #[.int .i64 (p0 : Int), .int .u64 (g : Int), .int .i64 (n : Int), .int .i64 (q : Int)] rfl rfl 38 _ (heap_alloc_last _ _) sz.out rfl one_sc16 ?_; rw [World.setRow_alloc_new])
  obtain ⟨w4, hw4⟩ : ∃ x, x = w3.alloc (.cells #[.int .i64 (p0 : Int), .int .u64 (g : Int), .int .i64 (n : Int), .int .i64 (q : Int)] 38) := ⟨_, rfl⟩
  rw [← hw4] at hro hb ⊢
  clear hw4
  obtain ⟨Y, hY⟩ : ∃ Y, Y = w3.heap.size := ⟨_, rfl⟩
  rw [← hY] at hro ⊢
  have L := qH (L.out.later DK hb)
  have RO := qH hro
  clear hro hb hY sz HUB HNS
  refine (hrc _).mono ?_; clear hrc cK; rintro e w5 ⟨rfl, hw5⟩
  obtain rfl : w4 = w5 := hw5.symm
  have c3' := (HXW.out w4 L.out.lc.bel).c3
  have hni : ¬ (Cn : Int) < (n : Int) := by omega
  go_wp2_with fail
  clear c3' hni
  have hdr : Below w4.heap.size w4 w4.drew := (Below.drew (Below.refl _ _))
  have L := qH (L.out.later DK hdr)
  have RO := qH (RO.out.later hdr)
  have CC := qH (HXW.out w4.drew L.out.lc.bel).c3
  have hfree := free_any U P pp w4.drew L.out.pl (L.out.tz HT1.out)
  rw [HPF.out.1, HCN.out] at hfree
  obtain ⟨fr, hfr⟩ : ∃ fr : Int, fr = (Cn : Int) - (n : Int) := ⟨_, rfl⟩
  rw [← hfr] at hfree
  have HFR := qH (show IntKind.i64.wrap ((Cn : Int) - (n : Int)) = fr from by rw [hfr, IntKind.wrap_i64]; have := HG0.out; have := HN6.out; omega)
  clear hdr hfr
  refine wp_region_held_drew (S := fun w' => Fr (fun _ => False) w4.drew w') (by kernel_rfl) (Fr.refl _ _) (fun hHeld => ?_)
  clear hHeld
  refine tA 0 (some 90) rfl (Fr.refl _ _) ?_
  refine tA 1 (some 91) rfl (Fr.refl _ _) ?_
  refine tA 2 (some 92) rfl (Fr.refl _ _) ?_
  refine tA 3 (some 93) rfl (Fr.refl _ _) ?_
  refine tA 4 (some 94) rfl (Fr.refl _ _) ?_
  refine tA 5 (some 95) rfl (Fr.refl _ _) ?_
  refine tL 6 (some 96) (v := (.bool false)) rfl ?yg6 (Fr.refl _ _) ?rg6
  case yg6 =>
   intro wq hSw
   exact step_ne15 (x := .tmp 94) (y := .tmp 95) rfl rfl rfl (decide_eq_true rfl)
  try simp only [Act.put,sA,sB,sC]
  refine tA 7 (some 97) rfl (Fr.refl _ _) ?_
  refine tA 8 (some 98) rfl (Fr.refl _ _) ?_
  refine tA 9 (some 99) rfl (Fr.refl _ _) ?_
  refine tA 11 (some 101) rfl (Fr.refl _ _) ?_
  refine tL 12 (some 102) (v := ?vg12) rfl ?yg12 (Fr.refl _ _) ?rg12
  case yg12 =>
   intro wq hSw
   (try dsimp only at hSw)
   have hq := hSw.cell_some (CC.out) (fun h => h)
   go_simp <;> with_reducible rfl
  try simp only [Act.put,sA,sB,sC]
  refine tA 13 (some 103) rfl (Fr.refl _ _) ?_
  refine tL 14 (some 104) (v := (.int .i64 fr)) rfl ?yg14 (Fr.refl _ _) ?rg14
  case yg14 =>
   intro wq hSw
   exact step_sub16 (x := .tmp 102) (y := .tmp 103) rfl rfl rfl HFR.out
  try simp only [Act.put,sA,sB,sC]
  refine rW 10 (some 100) rfl fun K hK => ?_
  go_simp
  refine hfree.mono ?_; clear hfree; rintro e w6 ⟨rfl, hb⟩
  have hfr : Fr (fun _ => False) w4.drew w6 := Fr.of_below hb
  have L := qH (L.out.later DK hb)
  have RO := qH (RO.out.later hb)
  have CC := qH (hfr.cell_some CC.out (fun h => h))
  clear hb
  go_wp2_with fail
  refine hK.out _ _ hfr (fun hHeld => ?_)
  clear hK K hHeld
  try simp only [Act.put,sA,sB,sC]
  refine wpAnyH_re (S' := fun w' => Fr (fun _ => False) w6 w') (fun w' h => hfr.trans h) ?_
  clear hfr
  refine tL 15 (some 105) (v := (.bool false)) rfl ?yg15 (Fr.refl _ _) ?rg15
  case yg15 =>
   intro wq hSw
   exact step_ne15 (x := .tmp 100) (y := .tmp 104) rfl rfl rfl (decide_eq_true rfl)
  try simp only [Act.put,sA,sB,sC]
  refine tA 16 (some 106) rfl (Fr.refl _ _) ?_
  refine tD ?_
  go_wp2_with fail
  clear CC HFR
  obtain ⟨n2, hn2⟩ : ∃ n2, n2 = countS r q2 := ⟨_, rfl⟩
  have HN2 := qH hn2.symm
  have HN62 := qH (show n2 ≤ 60 ∧ 0 < n2 from by rw [hn2]; exact ⟨countS_small HRB.out (by omega), countS_pos⟩)
  clear hn2
  by_cases hen2 : n2 + n ≤ Cn
  case neg =>
   have hsh := least_no15 (n := Cn) (m := n2) (f := pp.f) (by rw [HCN.out]; omega)
   refine (put16_few DK L.out HT1.out r HR.out A2 q2 c2 n2 (by omega) HN2.out (by have := HN62.out; omega) (by rw [HPF.out.1]; exact hsh)).mono ?_; rintro e w7 ⟨rfl, hL, hf⟩
   have RO := qH (show Ro16 w7 S3 U Y bb (p0 : Int) (g : Int) n (q : Int) ps from RO.out.mut (hf.mono fun x hx => .inr hx) fun x hx => .inl hx)
   have L := qH hL
   have sz := qH (size_sc16 0 0 0 0)
   have hb : Below w7.heap.size w7 (w7.alloc (.cells #[.int .i64 0, .int .u64 0, .int .i64 0, .int .i64 0] 38)) := (Below.refl _ _).alloc (Nat.le_refl _) _
   have L := qH (L.out.later DK hb)
   have RO := qH (RO.out.later hb)
   clear hb hsh hL hf
   go_wp2_with (refine at_none ?_; refine wpList_store_row (o := ⟨none, _, _, _, _, _⟩) rfl 38 (.tmp 16) (.tmp 113) rfl w7.heap.size #[.int .i64 0, .int .u64 0, .int .i64 0, .int .i64 0] rfl rfl 38 _ (heap_alloc_last _ _) sz.out rfl one_sc16 ?_; rw [World.setRow_alloc_new])
   obtain ⟨w8, hw8⟩ : ∃ x, x = w7.alloc (.cells #[.int .i64 0, .int .u64 0, .int .i64 0, .int .i64 0] 38) := ⟨_, rfl⟩
   rw [← hw8] at L RO ⊢
   clear hw8 sz
   go_loopw [19] (fun iv wr => iv = .int .i64 0 ∧ wr = w8) (fun _ _ => 0)
   case atStart => exact ⟨rfl, rfl⟩
   case round =>
    obtain ⟨rfl, rfl⟩ := hrel
    go_wp2_with fail
    have hfl := arflush_any DK L.out.lc.ac.a (Wl.mono13 HWL.out (by have := HN6.out; have := HN62.out; omega)) (by rw [L.out.lc.ac.len]; have := HG0.out; omega)
    refine hfl.mono ?_; clear hfl; rintro e wf ⟨rfl, hm⟩
    rw [L.out.lc.ac.len] at hm
    obtain ⟨Sf, hL, hX⟩ := L.out.mut hm flushS_len (flushS_ns16 L.out.lc.ac.n) (flushS_idle L.out.lc.ac.len (fun d x hx => (L.out.lc.ac.n d x hx).1)).wl0
    have L := qH hL
    have RO := qH (RO.out.nxt hX)
    have HVAL := qH (HVAL.out.flush HVO.out)
    obtain ⟨xf, hxf⟩ : ∃ xf, xf = flushS xs1 (Kn + M) := ⟨_, rfl⟩
    rw [← hxf] at L HVAL
    have hLz : Lc15 Rep w1 wf Sf A C Kn M F T (Fs + Cn) (failZ gl xf 0) U P pp := L.out
    have hRz : Ro16 wf Sf U Y bb (p0 : Int) (g : Int) n (q : Int) ps := RO.out
    clear hm hL hX hxf L RO
    go_wp2_with fail
    go_loopw [21] (fun tv wx => ∃ (t : Nat) (S5 : Nat → Prop), t ≤ G ∧ tv = .int .i64 (t : Int) ∧ Lc15 Rep w1 wx S5 A C Kn M F T (Fs + Cn) (failZ gl xf t) U P pp ∧ Ro16 wx S5 U Y bb (p0 : Int) (g : Int) n (q : Int) ps) (fun tv _ => G - (intOf tv).toNat)
    case atStart => exact ⟨0, Sf, by omega, rfl, hLz, hRz⟩
    case round =>
     clear hLz hRz
     obtain ⟨t, S5, ht, rfl, hlb, hro⟩ := hrel
     have L := qH hlb
     have RO := qH hro
     clear hlb hro
     by_cases htg : t < G
     ·have hti : (t : Int) < (G : Int) := by omega
      have t1 : (0 : Int) ≤ (t : Int) := by omega
      obtain ⟨b2, o2, rfl, hc2⟩ := HSG.out.at_ htg
      have htl : t < gl.length := by rw [← HG.out]; exact htg
      have hz := hc2 t _ (icells_get gl t htl)
      have hgd : gl.getD t 0 = gl[t] := by simp [htl]
      rw [← hgd] at hz
      have hzw := ((B1.out.trans (L.out.lc.bel.mono B1.out.size)).cell (World.block_lt_of_cell? w _ hz)).trans hz
      have hfa := arfail_any DK L.out.lc.ac.a (by rw [L.out.lc.ac.len]; have := HG0.out; omega) (gl.getD t 0)
      obtain ⟨z, hzz⟩ : ∃ z, z = gl.getD t 0 := ⟨_, rfl⟩
      rw [← hzz] at hzw hfa
      have HZ := qH hzz
      clear hc2 hz hgd hzz htl
      go_wp2_with fail
      refine hfa.mono ?_; clear hfa hzw; rintro e w9 ⟨rfl, hm⟩
      rw [show onD (failZ gl xf t) z (fun x => x.fail) = failZ gl xf (t + 1) from by rw [HZ.out]; rfl] at hm
      obtain ⟨S6, hL, hX⟩ := L.out.mut hm ((failZ_len (t + 1)).trans (failZ_len t).symm) (fun d x hx => by
       rw [failZ] at hx
       exact failZ_ns (l := [gl.getD t 0]) L.out.lc.ac.n 1 d x hx) (by
       rw [failZ]
       exact failZ_wl (l := [gl.getD t 0]) L.out.lc.ac.wl 1)
      have L := qH hL
      have RO := qH (RO.out.nxt hX)
      clear hm hL hX
      go_wp2_with fail
      go_roundw
      case rel => exact ⟨t + 1, S6, by omega, by go_num, L.out, RO.out⟩
      case measure => simp [intOf]; omega
     ·obtain rfl : t = G := by omega
      have HGOOD := qH (show Kn ≤ cntG (Kn + M) (goodZ gl gl.length) from by
       have := cntG_goodZ (n := Kn + M) (l := gl) gl.length (Nat.le_refl _)
       have := HG.out
       omega)
      rw [HG.out] at L
      go_wp2_with (refine at_dst11 (d := 154) ?_; refine wpList_step11 (o := ⟨some 154, _, _, _, _, _⟩) rfl _ _ (step_sc16 (x := .tmp 12) rfl rfl RO.out.y) ?_)
      refine (get16_any DK SV L.out.lc.ac r HR.out ps g x q n n p0 (fun _ => goodZ gl gl.length) HQ.out.symm (by omega) HN.out (by have := HN6.out; omega) HPL.out HP0.out.symm HVO.out HVAL.out.failZ (fun _ _ _ => hGd _ _ _ HGOOD.out) (fun h => absurd h (Nat.lt_irrefl _))).mono ?_; rintro e wg (⟨_, A5, k5, A6, k6, rfl, hs5, hs6, hb5, -⟩ | ⟨h, _⟩)
      rotate_left
      ·exact absurd h (Nat.lt_irrefl _)
      have L := qH (L.out.later DK hb5)
      have RO := qH (RO.out.later hb5)
      have hrt := rints_any A6 n k6 ps (some ⟨bb, 0, none⟩) n n ps wg hs6 RO.out.r.sl
      rw [decide_eq_true rfl] at hrt
      have k1 := run_string_of (P := Tryz.prog) 40 5 9 Tryz.underlying40 Tryz.underlying5 Tryz.underlying9 hs5
      have k2 := run_string_of (P := Tryz.prog) 40 5 9 Tryz.underlying40 Tryz.underlying5 Tryz.underlying9 (HSX.out.below (B1.out.trans (L.out.lc.bel.mono B1.out.size)) (Nat.le_refl _))
      obtain ⟨sx, hsx⟩ : ∃ sx, sx = bstr x := ⟨_, rfl⟩
      rw [← hsx] at k1 k2
      clear hs5 hs6 hb5 hsx
      go_wp2_with fail
      clear k1 k2
      refine hrt.mono ?_; clear hrt; rintro e wgb ⟨rfl, hb⟩
      have L := qH (L.out.later DK hb)
      have RO := qH (RO.out.later hb)
      clear hb
      go_wp2_with fail
      have BL := qH (B1.out.trans (L.out.lc.bel.mono B1.out.size))
      refine (HK.out _ BL.out).mono ?_; rintro e wz ⟨rfl, hb⟩
      have BZ := qH (BL.out.trans (hb.mono BL.out.size))
      clear hb
      go_wp2_with fail
      go_ret
      exact ⟨rfl, BZ.out⟩
  case pos =>
   have hlt12 := least_yes15 (n := pp.n) (f := pp.f) (m := n2) (by rw [HPF.out.1, HCN.out]; exact hen2)
   obtain ⟨l2, hl⟩ : ∃ l2, l2 = leastD pp.n pp.f (n2 : Int) := ⟨_, rfl⟩
   rw [← hl] at hlt12
   have HPL2 := qH (show (placesL pp l2).length = n2 from by rw [placesL, List.length_map, hlt12.len])
   have hvo := vok15 (k := Kn) (N := Fs + Cn) (g := genP pp) hlt12 HG0.out.1 (by have := HG0.out; omega) (by have := HG0.out; omega) (by rw [HPF.out.1, HPF.out.2.1]; exact Nat.le_refl _) (by have := HN62.out; have := HN6.out; have := HPF.out; unfold genP; omega)
   have HVO2 := qH hvo
   have hnin : ∀ y, y ∈ placesL pp l2 → y ∉ ps := fun y hy hy2 => by
    obtain ⟨j, hj, e⟩ := placesL_mem16 hy
    obtain ⟨i, hi, e2⟩ := mem_getD15 hj
    rw [hlt12.len] at hi
    have hfr := hlt12.free i hi
    obtain ⟨j2, h1, h2, h3⟩ := HTK.out y hy2
    obtain rfl : j2 = j := by have := HPF.out.2.1; omega
    rw [e2] at hfr
    rw [hfr.2] at h3
    cases h3
   have hp := put16_yes (c := 0 + n) DK SV L.out HT1.out r HR.out x2 A2 q2 c2 n2 l2 HQ2.out.symm (by omega) (HSO.out.below (B1.out.trans (L.out.lc.bel.mono B1.out.size)) (Nat.le_refl _)) (fun bb o h0 hA => ⟨fun x => by have := HAO.out bb o h0 hA; have := L.out.lc.lo _ x; have := HB.out; omega, fun x => by have := HAO.out bb o h0 hA; have := L.out.ulo _ x; have := HB.out; omega⟩) HN2.out (by have := HN62.out; omega) hl.symm hlt12 (by have := HN62.out; have := HN6.out; have := HPF.out; omega) (by have := HG0.out; omega) (by rw [HPF.out.1, HPF.out.2.1]; exact Nat.le_refl _) (HBR.out _ (hvo.at_ (n2 - 1) (by rw [HPL2.out]; have := HN62.out; omega)) (hnin _ (getD_mem15 (by rw [HPL2.out]; have := HN62.out; omega)))) HWL.out (by have := HN6.out; have := HN62.out; omega)
   unfold RetPut16 at hp
   rw [← HQ2.out] at hp
   have HTT2 := qH hlt12
   obtain ⟨ps2, hps⟩ : ∃ ps2, ps2 = placesL pp l2 := ⟨_, rfl⟩
   rw [← hps] at hp HVO2 HPL2 hnin
   obtain ⟨g2, hg⟩ : ∃ g2, g2 = genP pp := ⟨_, rfl⟩
   rw [← hg] at hp HVO2
   obtain ⟨p02, hp02⟩ : ∃ p02, p02 = ps2.getD 0 0 := ⟨_, rfl⟩
   rw [← hp02] at hp
   have HP02 := qH hp02
   have HNIN := qH hnin
   clear hlt12 hvo hl hps hg hp02 hnin
   refine hp.mono ?_; clear hp; rintro e w7 ⟨bb2, S7, rfl, hrb, hbb, hnb, hL, hf, hS7⟩
   have HUB := qH (show ¬ U bb2 from fun x => by have := L.out.pl.lt _ x; omega)
   have hval := putT_all (k := Kn) (n := Kn + M) (g := g2) HVO2.out (leaf_ok (g := g2) (ps := ps2) (b := x2) HG0.out.1) L.out.lc.ac.len L.out.lc.ac.n HGO.out
   have hval1 := HVAL.out.aside HVO2.out (leaf_ok (g := g2) (ps := ps2) (b := x2) HG0.out.1) (fun y hy hy2 => HNIN.out y hy2 hy)
   have hwl := putT_wl (k := Kn) (n := Kn + M) (kd := 4) (ps := ps2) (g := g2) (T := leafL Kn ps2 g2 x2) HWL.out n2
   rw [HPL2.out] at hval hval1
   obtain ⟨xs2, hxs2⟩ : ∃ xs2, xs2 = putT Kn (Kn + M) 4 ps2 g2 (leafL Kn ps2 g2 x2) xs1 n2 := ⟨_, rfl⟩
   rw [← hxs2] at hval hval1 hwl hL
   obtain ⟨pp2, hpp⟩ : ∃ pp2, pp2 = takenP pp l2 n2 := ⟨_, rfl⟩
   rw [← hpp] at hL
   have HVAL2 := qH hval
   have HVAL := qH hval1
   have HWL2 := qH hwl
   have RO := qH (show Ro16 w7 S7 U Y bb (p0 : Int) (g : Int) n (q : Int) ps from RO.out.mut hf hS7)
   have L := qH hL
   have sz := qH (size_sc16 (p02 : Int) (g2 : Int) (n2 : Int) (q2 : Int))
   obtain ⟨hro, hb⟩ := Ro16.new (a := (p02 : Int)) (g := (g2 : Int)) (z := (q2 : Int)) DK hL hrb hnb HUB.out
   clear hrb hbb hnb hL hf hS7 hval hval1 hwl hxs2 hpp
   go_wp2_with (refine at_none ?_; refine wpList_store_row (o := ⟨none, _, _, _, _, _⟩) rfl 38 (.tmp 16) (.tmp 113) rfl w7.heap.size #[.int .i64 (p02 : Int), .int .u64 (g2 : Int), .int .i64 (n2 : Int), .int .i64 (q2 : Int)] rfl rfl 38 _ (heap_alloc_last _ _) sz.out rfl one_sc16 ?_; rw [World.setRow_alloc_new])
   obtain ⟨w8, hw8⟩ : ∃ x, x = w7.alloc (.cells #[.int .i64 (p02 : Int), .int .u64 (g2 : Int), .int .i64 (n2 : Int), .int .i64 (q2 : Int)] 38) := ⟨_, rfl⟩
   rw [← hw8] at hro hb ⊢
   clear hw8
   obtain ⟨Y2, hY⟩ : ∃ Y, Y = w7.heap.size := ⟨_, rfl⟩
   rw [← hY] at hro ⊢
   have L := qH (L.out.later DK hb)
   have RO := qH (RO.out.later hb)
   have RP := qH hro
   clear hro hb hY sz HUB
   have hnb1 : n ≤ 60 := HN6.out.1
   have hnb2 : n2 ≤ 60 := HN62.out.1
   go_loopw [19] (fun iv wr => ∃ i : Nat, i ≤ n2 ∧ iv = .int .i64 (i : Int) ∧ Below w8.heap.size w8 wr) (fun iv _ => n2 - (intOf iv).toNat)
   case atStart => exact ⟨0, by omega, rfl, Below.refl _ _⟩
   case round =>
    obtain ⟨i, hi, rfl, hbr⟩ := hrel
    have HBI := qH hbr
    clear hbr
    by_cases hlt : i < n2
    ·have hii : (i : Int) < (n2 : Int) := by omega
     go_wp2_with fail
     go_loopw [20] (fun jv wq => ∃ j : Nat, j ≤ n ∧ jv = .int .i64 (j : Int) ∧ Below w8.heap.size w8 wq) (fun jv _ => n - (intOf jv).toNat)
     case atStart => exact ⟨0, by omega, rfl, HBI.out⟩
     case round =>
      obtain ⟨j, hj, rfl, hbr⟩ := hrel
      have HBJ := qH hbr
      clear hbr
      by_cases hlj : j < n
      ·have hjj : (j : Int) < (n : Int) := by omega
       have i1 : (0 : Int) ≤ (i : Int) := by omega
       have j1 : (0 : Int) ≤ (j : Int) := by omega
       have hdr := HBJ.out.trans ((Below.drew (Below.refl wr.heap.size wr)).mono HBJ.out.size)
       have CA := qH ((RP.out.r.later hdr).cell (j := i) (ncells_at16 (by rw [HPL2.out]; exact hlt)))
       have CB := qH ((RO.out.r.later hdr).cell (j := j) (ncells_at16 (by rw [HPL.out]; exact hlj)))
       have HNE := qH (show ¬ ((ps2.getD i 0 : Nat) : Int) = ((ps.getD j 0 : Nat) : Int) from fun e => HNIN.out _ (getD_mem15 (by rw [HPL2.out]; exact hlt)) (by rw [show ps2.getD i 0 = ps.getD j 0 by omega]; exact getD_mem15 (by rw [HPL.out]; exact hlj)))
       have HBD := qH hdr
       clear hdr
       go_wp2_with fail
       refine wp_region_held_drew (S := fun w' => Fr (fun _ => False) wr.drew w') (by kernel_rfl) (Fr.refl _ _) (fun hHeld => ?_)
       clear hHeld
       refine tA 0 (some 128) rfl (Fr.refl _ _) ?_
       refine tA 1 (some 129) rfl (Fr.refl _ _) ?_
       refine tA 2 (some 130) rfl (Fr.refl _ _) ?_
       refine tL 3 (some 131) (v := ?vh3) rfl ?yh3 (Fr.refl _ _) ?rh3
       case yh3 =>
        intro wq hSw
        (try dsimp only at hSw)
        have hq := hSw.cell_some (CA.out) (fun h => h)
        go_simp <;> with_reducible rfl
       try simp only [Act.put,sA,sB,sC]
       refine tA 4 (some 132) rfl (Fr.refl _ _) ?_
       refine tA 5 (some 133) rfl (Fr.refl _ _) ?_
       refine tA 6 (some 134) rfl (Fr.refl _ _) ?_
       refine tL 7 (some 135) (v := ?vh7) rfl ?yh7 (Fr.refl _ _) ?rh7
       case yh7 =>
        intro wq hSw
        (try dsimp only at hSw)
        have hq := hSw.cell_some (CB.out) (fun h => h)
        go_simp <;> with_reducible rfl
       try simp only [Act.put,sA,sB,sC]
       refine tL 8 (some 136) (v := (.bool false)) rfl ?yh8 (Fr.refl _ _) ?rh8
       case yh8 =>
        intro wq hSw
        exact step_eq15 (x := .tmp 131) (y := .tmp 135) rfl rfl rfl (decide_eq_false HNE.out)
       try simp only [Act.put,sA,sB,sC]
       refine tD ?_
       go_wp2_with fail
       go_roundw
       case rel => exact ⟨j + 1, by omega, by go_num, HBD.out⟩
       case measure => simp [intOf]; omega
      ·obtain rfl : j = n := by omega
       go_wp2_with fail
       go_roundw
       case rel => exact ⟨i + 1, by omega, by go_num, HBJ.out⟩
       case measure => simp [intOf]; omega
    ·obtain rfl : n2 = i := by omega
     have L := qH (L.out.later DK HBI.out)
     have RO := qH (RO.out.later HBI.out)
     have RP := qH (RP.out.later HBI.out)
     clear HBI
     go_wp2_with fail
     have hfl := arflush_any DK L.out.lc.ac.a (Wl.mono13 HWL2.out (by have := HN6.out; have := HN62.out; omega)) (by rw [L.out.lc.ac.len]; have := HG0.out; omega)
     refine hfl.mono ?_; clear hfl; rintro e wf ⟨rfl, hm⟩
     rw [L.out.lc.ac.len] at hm
     obtain ⟨Sf, hL, hX⟩ := L.out.mut hm flushS_len (flushS_ns16 L.out.lc.ac.n) (flushS_idle L.out.lc.ac.len (fun d x hx => (L.out.lc.ac.n d x hx).1)).wl0
     have L := qH hL
     have RO := qH (RO.out.nxt hX)
     have RP := qH (RP.out.nxt hX)
     have HVAL := qH (HVAL.out.flush HVO.out)
     have HVAL2 := qH (HVAL2.out.flush HVO2.out)
     obtain ⟨xf, hxf⟩ : ∃ xf, xf = flushS xs2 (Kn + M) := ⟨_, rfl⟩
     rw [← hxf] at L HVAL HVAL2
     have hLz : Lc15 Rep w1 wf Sf A C Kn M F T (Fs + Cn) (failZ gl xf 0) U P pp2 := L.out
     have hRz : Ro16 wf Sf U Y bb (p0 : Int) (g : Int) n (q : Int) ps ∧ Ro16 wf Sf U Y2 bb2 (p02 : Int) (g2 : Int) n2 (q2 : Int) ps2 := ⟨RO.out, RP.out⟩
     clear hm hL hX hxf L RO RP
     go_wp2_with fail
     go_loopw [21] (fun tv wx => ∃ (t : Nat) (S5 : Nat → Prop), t ≤ G ∧ tv = .int .i64 (t : Int) ∧ Lc15 Rep w1 wx S5 A C Kn M F T (Fs + Cn) (failZ gl xf t) U P pp2 ∧ Ro16 wx S5 U Y bb (p0 : Int) (g : Int) n (q : Int) ps ∧ Ro16 wx S5 U Y2 bb2 (p02 : Int) (g2 : Int) n2 (q2 : Int) ps2) (fun tv _ => G - (intOf tv).toNat)
     case atStart => exact ⟨0, Sf, by omega, rfl, hLz, hRz⟩
     case round =>
      clear hLz hRz
      obtain ⟨t, S5, ht, rfl, hlb, hro, hrp⟩ := hrel
      have L := qH hlb
      have RO := qH hro
      have RP := qH hrp
      clear hlb hro hrp
      by_cases htg : t < G
      ·have hti : (t : Int) < (G : Int) := by omega
       have t1 : (0 : Int) ≤ (t : Int) := by omega
       obtain ⟨b2, o2, rfl, hc2⟩ := HSG.out.at_ htg
       have htl : t < gl.length := by rw [← HG.out]; exact htg
       have hz := hc2 t _ (icells_get gl t htl)
       have hgd : gl.getD t 0 = gl[t] := by simp [htl]
       rw [← hgd] at hz
       have hzw := ((B1.out.trans (L.out.lc.bel.mono B1.out.size)).cell (World.block_lt_of_cell? w _ hz)).trans hz
       have hfa := arfail_any DK L.out.lc.ac.a (by rw [L.out.lc.ac.len]; have := HG0.out; omega) (gl.getD t 0)
       obtain ⟨z, hzz⟩ : ∃ z, z = gl.getD t 0 := ⟨_, rfl⟩
       rw [← hzz] at hzw hfa
       have HZ := qH hzz
       clear hc2 hz hgd hzz htl
       go_wp2_with fail
       refine hfa.mono ?_; clear hfa hzw; rintro e w9 ⟨rfl, hm⟩
       rw [show onD (failZ gl xf t) z (fun x => x.fail) = failZ gl xf (t + 1) from by rw [HZ.out]; rfl] at hm
       obtain ⟨S6, hL, hX⟩ := L.out.mut hm ((failZ_len (t + 1)).trans (failZ_len t).symm) (fun d x hx => by
        rw [failZ] at hx
        exact failZ_ns (l := [gl.getD t 0]) L.out.lc.ac.n 1 d x hx) (by
        rw [failZ]
        exact failZ_wl (l := [gl.getD t 0]) L.out.lc.ac.wl 1)
       have L := qH hL
       have RO := qH (RO.out.nxt hX)
       have RP := qH (RP.out.nxt hX)
       clear hm hL hX
       go_wp2_with fail
       go_roundw
       case rel => exact ⟨t + 1, S6, by omega, by go_num, L.out, RO.out, RP.out⟩
       case measure => simp [intOf]; omega
      ·obtain rfl : t = G := by omega
       have HGOOD := qH (show Kn ≤ cntG (Kn + M) (goodZ gl gl.length) from by
        have := cntG_goodZ (n := Kn + M) (l := gl) gl.length (Nat.le_refl _)
        have := HG.out
        omega)
       rw [HG.out] at L
       go_wp2_with (refine at_dst11 (d := 154) ?_; refine wpList_step11 (o := ⟨some 154, _, _, _, _, _⟩) rfl _ _ (step_sc16 (x := .tmp 12) rfl rfl RO.out.y) ?_)
       refine (get16_any DK SV L.out.lc.ac r HR.out ps g x q n n p0 (fun _ => goodZ gl gl.length) HQ.out.symm (by omega) HN.out (by have := HN6.out; omega) HPL.out HP0.out.symm HVO.out HVAL.out.failZ (fun _ _ _ => hGd _ _ _ HGOOD.out) (fun h => absurd h (Nat.lt_irrefl _))).mono ?_; rintro e wg (⟨_, A5, k5, A6, k6, rfl, hs5, hs6, hb5, -⟩ | ⟨h, _⟩)
       rotate_left
       ·exact absurd h (Nat.lt_irrefl _)
       have L := qH (L.out.later DK hb5)
       have RO := qH (RO.out.later hb5)
       have RP := qH (RP.out.later hb5)
       have hrt := rints_any A6 n k6 ps (some ⟨bb, 0, none⟩) n n ps wg hs6 RO.out.r.sl
       rw [decide_eq_true rfl] at hrt
       have k1 := run_string_of (P := Tryz.prog) 40 5 9 Tryz.underlying40 Tryz.underlying5 Tryz.underlying9 hs5
       have k2 := run_string_of (P := Tryz.prog) 40 5 9 Tryz.underlying40 Tryz.underlying5 Tryz.underlying9 (HSX.out.below (B1.out.trans (L.out.lc.bel.mono B1.out.size)) (Nat.le_refl _))
       obtain ⟨sx, hsx⟩ : ∃ sx, sx = bstr x := ⟨_, rfl⟩
       rw [← hsx] at k1 k2
       clear hs5 hs6 hb5 hsx
       go_wp2_with fail
       clear k1 k2
       refine hrt.mono ?_; clear hrt; rintro e wgb ⟨rfl, hb⟩
       have L := qH (L.out.later DK hb)
       have RO := qH (RO.out.later hb)
       have RP := qH (RP.out.later hb)
       clear hb
       go_wp2_with (refine at_dst11 (d := 184) ?_; refine wpList_step11 (o := ⟨some 184, _, _, _, _, _⟩) rfl _ _ (step_sc16 (x := .tmp 16) rfl rfl RP.out.y) ?_)
       refine (get16_any DK SV L.out.lc.ac r HR.out ps2 g2 x2 q2 n2 n2 p02 (fun _ => goodZ gl gl.length) HQ2.out.symm (by omega) HN2.out (by have := HN62.out; omega) HPL2.out HP02.out.symm HVO2.out HVAL2.out.failZ (fun _ _ _ => hGd _ _ _ HGOOD.out) (fun h => absurd h (Nat.lt_irrefl _))).mono ?_; rintro e wh (⟨_, A5, k5, A6, k6, rfl, hs5, hs6, hb5, -⟩ | ⟨h, _⟩)
       rotate_left
       ·exact absurd h (Nat.lt_irrefl _)
       have L := qH (L.out.later DK hb5)
       have RO := qH (RO.out.later hb5)
       have RP := qH (RP.out.later hb5)
       have hrt := rints_any A6 n2 k6 ps2 (some ⟨bb2, 0, none⟩) n2 n2 ps2 wh hs6 RP.out.r.sl
       rw [decide_eq_true rfl] at hrt
       have k1 := run_string_of (P := Tryz.prog) 40 5 9 Tryz.underlying40 Tryz.underlying5 Tryz.underlying9 hs5
       have k2 := run_string_of (P := Tryz.prog) 40 5 9 Tryz.underlying40 Tryz.underlying5 Tryz.underlying9 (HSO.out.below (B1.out.trans (L.out.lc.bel.mono B1.out.size)) (Nat.le_refl _))
       obtain ⟨sx, hsx⟩ : ∃ sx, sx = bstr x2 := ⟨_, rfl⟩
       rw [← hsx] at k1 k2
       clear hs5 hs6 hb5 hsx
       go_wp2_with fail
       clear k1 k2
       refine hrt.mono ?_; clear hrt; rintro e whb ⟨rfl, hb⟩
       have L := qH (L.out.later DK hb)
       have RO := qH (RO.out.later hb)
       have RP := qH (RP.out.later hb)
       clear hb
       go_wp2_with fail
       have BL := qH (B1.out.trans (L.out.lc.bel.mono B1.out.size))
       refine (HK.out _ BL.out).mono ?_; rintro e wz ⟨rfl, hb⟩
       have BZ := qH (BL.out.trans (hb.mono BL.out.size))
       clear hb
       go_wp2_with fail
       go_ret
       exact ⟨rfl, BZ.out⟩
end
end Go.Proofs.YtokbhgbajdomnaaGreatDoor
