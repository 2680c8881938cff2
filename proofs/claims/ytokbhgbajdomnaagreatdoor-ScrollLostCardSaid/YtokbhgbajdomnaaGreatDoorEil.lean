/-
  The statement's function ScrollLost returns true, whatever its arguments. Conditions: drives as 'DrvK' says, stripes as 'StrV' says; both tables read as the row lists them. (Written by gen_eik.py.)
-/
import Derived.Test.YtokbhgbajdomnaaGreatDoorEin
import Derived.Deep.DeepCutAuto
set_option linter.unusedVariables false
set_option maxRecDepth 100000
set_option maxHeartbeats 6400000
namespace Go.Proofs.YtokbhgbajdomnaaGreatDoor
open Go.RowKit Go.Proofs
section
variable {Rep : World → (Nat → Prop) → Nat → Dv → Prop} {Good : Nat → Nat → (Nat → Bool) → Prop}
theorem scrollLost_any (DK : DrvK Rep) (SV : StrV Rep Good) (SL : StrL Rep) (hGd : ∀ k n G, k ≤ cntG n G → Good k n G) (k m f c : Int) (A1 : Option Addr) (c1 : Nat) (x : List UInt8) (wh : Int) (w : World) (bk : -9223372036854775808 ≤ k ∧ k < 9223372036854775808) (bm : -9223372036854775808 ≤ m ∧ m < 9223372036854775808) (bw : -9223372036854775808 ≤ wh ∧ wh < 9223372036854775808)
  (h1 : Sl w 1 A1 x.length c1 (cells x)) (hN : Nt w) (hT : Tz w) :
  Calls Tryz.prog 5 #[.agg #[.int .i64 k, .int .i64 m, .int .i64 f, .int .i64 c], .slice A1 x.length c1, .int .i64 wh] w (SaysTrue w) := by
 obtain ⟨bw1, bw2⟩ := bw
 have hk := fun W (hb : Below w.heap.size w W) => rolls16_any DK SV (hGd _ _ _ (by decide)) W (hN.keep hb) (hT.keep hb)
 have HK := qH hk
 obtain ⟨q, hq⟩ : ∃ q, q = x.length := ⟨_, rfl⟩
 rw [← hq] at h1 ⊢
 have HQ := qH hq
 have HSX := qH h1
 have HAX := qH (show ∀ bb o, 0 < q → A1 = some ⟨bb, o, none⟩ → bb < w.heap.size from fun bb o h0 hA => h1.lt (by decide) h0 hA)
 have q63 := h1.lim
 unfold maxLen at q63
 have HNN := qH hN
 have HTT := qH hT
 have hsm := fun W => small15_any k m f c bk bm W
 have Hbl := qH (bs16_below w k m f c)
 have hbx : Bs16 (w.alloc (.cells #[.int .i64 k, .int .i64 m, .int .i64 f, .int .i64 c] 23)) w.heap.size k m f c := heap_alloc_new w _
 have Hbx := qH hbx
 clear hk hN hT hbx hq h1
 by_cases g0 : Small15 k m f c
 case neg =>
  rw [decide_eq_false g0] at hsm
  go_enter Tryz.func5, Tryz.ntmps5
  go_wp2_with (refine at_dst11 (d := 21) ?_; refine wpList_step11 (o := ⟨some 21, _, _, _, _, _⟩) rfl _ _ (step_bs16 (x := .tmp 3) rfl rfl Hbx.out) ?_)
  refine (hsm _).mono ?_; clear hsm; rintro e w1 ⟨rfl, hb⟩
  have X1 := qH (show Bs16 w1 w.heap.size _ _ _ _ from (hb.block _ (block_lt Hbx.out)).trans Hbx.out)
  have B1 := qH (Hbl.out.trans (hb.mono Hbl.out.size))
  clear hb Hbl Hbx
  go_wp2_with fail
  refine (HK.out w1 B1.out).mono ?_; rintro e wz ⟨rfl, hb⟩
  have BZ := qH (B1.out.trans (hb.mono B1.out.size))
  clear hb
  go_wp2_with fail
  go_ret
  exact ⟨rfl, BZ.out⟩
 rw [decide_eq_true g0] at hsm
 obtain ⟨Kn, rfl⟩ : ∃ Kn : Nat, k = (Kn : Int) := ⟨k.toNat, by have := g0.1; omega⟩
 obtain ⟨M, rfl⟩ : ∃ M : Nat, m = (M : Int) := ⟨m.toNat, by have := g0.2.1; omega⟩
 obtain ⟨Fs, rfl⟩ : ∃ Fs : Nat, f = (Fs : Int) := ⟨f.toNat, by have := g0.2.2.2.1; omega⟩
 obtain ⟨Cn, rfl⟩ : ∃ Cn : Nat, c = (Cn : Int) := ⟨c.toNat, by have := g0.2.2.2.2.2.1; omega⟩
 have HG0 := qH (show 1 ≤ Kn ∧ 1 ≤ M ∧ Kn + M ≤ 10 ∧ Fs ≤ 20 ∧ 1 ≤ Cn ∧ Cn ≤ 60 from by obtain ⟨q1, q2, q3, q4, q5, q6, q7⟩ := g0; omega)
 clear g0 bk bm
 by_cases d1 : (2000 : Int) < (q : Int)
 case pos =>
  go_enter Tryz.func5, Tryz.ntmps5
  go_wp2_with (refine at_dst11 (d := 21) ?_; refine wpList_step11 (o := ⟨some 21, _, _, _, _, _⟩) rfl _ _ (step_bs16 (x := .tmp 3) rfl rfl Hbx.out) ?_)
  refine (hsm _).mono ?_; clear hsm; rintro e w1 ⟨rfl, hb⟩
  have X1 := qH (show Bs16 w1 w.heap.size _ _ _ _ from (hb.block _ (block_lt Hbx.out)).trans Hbx.out)
  have B1 := qH (Hbl.out.trans (hb.mono Hbl.out.size))
  clear hb Hbl Hbx
  go_wp2_with fail
  refine (HK.out w1 B1.out).mono ?_; rintro e wz ⟨rfl, hb⟩
  have BZ := qH (B1.out.trans (hb.mono B1.out.size))
  clear hb
  go_wp2_with fail
  go_ret
  exact ⟨rfl, BZ.out⟩
 go_enter Tryz.func5, Tryz.ntmps5
 go_wp2_with (refine at_dst11 (d := 21) ?_; refine wpList_step11 (o := ⟨some 21, _, _, _, _, _⟩) rfl _ _ (step_bs16 (x := .tmp 3) rfl rfl Hbx.out) ?_)
 refine (hsm _).mono ?_; clear hsm; rintro e w1 ⟨rfl, hb⟩
 have X1 := qH (show Bs16 w1 w.heap.size _ _ _ _ from (hb.block _ (block_lt Hbx.out)).trans Hbx.out)
 have B1 := qH (Hbl.out.trans (hb.mono Hbl.out.size))
 clear hb Hbl Hbx
 go_wp2_with (refine at_dst11 (d := 31) ?_; refine wpList_step11 (o := ⟨some 31, _, _, _, _, _⟩) rfl _ w1 (step_bs16 (x := .tmp 3) rfl rfl X1.out) ?_)
 refine (made15_any DK Kn M Fs Cn HG0.out.1 HG0.out.2.1 (by have := HG0.out; omega) HG0.out.2.2.2.2.1 (by have := HG0.out; omega) (by have := HG0.out; omega) w1).mono ?_; intro e w2 hm
 obtain ⟨A, S, C, F, T, U, P, rfl, hLc, hb2, hlo⟩ := Lc15.made hm (Below.refl _ _) (HNN.out.keep B1.out)
 have L := qH hLc
 have HT1 := qH (HTT.out.keep B1.out)
 have HB := qH (show w.heap.size < w1.heap.size from block_lt X1.out)
 have HXW := qH (show ∀ W, Below w1.heap.size w1 W → Bs16 W w.heap.size (Kn : Int) (M : Int) (Fs : Int) (Cn : Int) from fun W hb => X1.out.later HB.out hb)
 obtain ⟨r, hr⟩ : ∃ r, 44 * Kn = r + 10 := ⟨44 * Kn - 10, by have := HG0.out; omega⟩
 have HR := qH hr
 have HRB := qH (show 34 ≤ r from by have := HG0.out; omega)
 clear hm hLc hb2 hlo hr
 go_wp2_with fail
 obtain ⟨n, hn⟩ : ∃ n, n = countS r q := ⟨_, rfl⟩
 have HN := qH hn.symm
 have HN6 := qH (show n ≤ 60 ∧ 0 < n from by rw [hn]; exact ⟨countS_small HRB.out (by omega), countS_pos⟩)
 clear hn
 by_cases hen : n ≤ Cn
 case neg =>
  have hsh := least_no15 (n := Cn) (m := n) (f := (newP Fs Cn).f) (by rw [cnt16]; omega)
  refine (put16_few DK L.out HT1.out r HR.out A1 q c1 n (by omega) HN.out (by have := HN6.out; omega) hsh).mono ?_; rintro e w3 ⟨rfl, hL, -⟩
  have L := qH hL
  have sz := qH (size_sc16 0 0 0 0)
  have hb : Below w3.heap.size w3 (w3.alloc (.cells #[.int .i64 0, .int .u64 0, .int .i64 0, .int .i64 0] 38)) := (Below.refl _ _).alloc (Nat.le_refl _) _
  have L := qH (L.out.later DK hb)
  clear hb hsh hL
  go_wp2_with (refine at_none ?_; refine wpList_store_row (o := ⟨none, _, _, _, _, _⟩) rfl 38 (.tmp 10) (.tmp 42) rfl w3.heap.size #[.int .i64 0, .int .u64 0, .int .i64 0, .int .i64 0] rfl rfl 38 _ (heap_alloc_last _ _) sz.out rfl one_sc16 ?_; rw [World.setRow_alloc_new])
  obtain ⟨w4, hw4⟩ : ∃ x, x = w3.alloc (.cells #[.int .i64 0, .int .u64 0, .int .i64 0, .int .i64 0] 38) := ⟨_, rfl⟩
  rw [← hw4] at L ⊢
  clear hw4 sz
  have BL := qH (B1.out.trans (L.out.lc.bel.mono B1.out.size))
  refine (HK.out _ BL.out).mono ?_; rintro e wz ⟨rfl, hb⟩
  have BZ := qH (BL.out.trans (hb.mono BL.out.size))
  clear hb
  go_wp2_with fail
  go_ret
  exact ⟨rfl, BZ.out⟩
 case pos =>
  have hlt12 := least_yes15 (n := Cn) (m := n) (f := (newP Fs Cn).f) (by rw [cnt16]; exact hen)
  obtain ⟨l, hl⟩ : ∃ l, l = leastD Cn (newP Fs Cn).f (n : Int) := ⟨_, rfl⟩
  rw [← hl] at hlt12
  have HLT := qH hlt12
  have HPL := qH (show (placesL (newP Fs Cn) l).length = n from by rw [placesL, List.length_map, hlt12.len])
  have hvo := vok15 (p := newP Fs Cn) (k := Kn) (N := Fs + Cn) (g := genP (newP Fs Cn)) hlt12 HG0.out.1 (by have := HG0.out; omega) (by have := HG0.out; omega) (Nat.le_refl _) (by have := HN6.out; show 0 * 1048576 + 0 + n ≤ _; omega)
  have HVO := qH hvo
  have HNS := qH (show ∀ (d : Nat) (x : Dv), (List.replicate (Kn + M) (Dv.new (Fs + Cn)))[d]? = some x → x.Ok ∧ x.n = Fs + Cn from fun d x h => L.out.lc.ac.n d x h)
  have hp := put16_yes (c := 0) DK SV L.out HT1.out r HR.out x A1 q c1 n l HQ.out.symm (by omega) (HSX.out.below (B1.out.trans (L.out.lc.bel.mono B1.out.size)) (Nat.le_refl _)) (fun bb o h0 hA => ⟨fun x => by have := HAX.out bb o h0 hA; have := L.out.lc.lo _ x; have := HB.out; omega, fun x => by have := HAX.out bb o h0 hA; have := L.out.ulo _ x; have := HB.out; omega⟩) HN.out (by have := HN6.out; omega) hl.symm hlt12 (by have := HN6.out; show 0 + n ≤ _; omega) (by have := HG0.out; omega) (Nat.le_refl _) (Bare.new (hvo.at_ (n - 1) (by rw [HPL.out]; have := HN6.out; omega))) Idle.new.wl0 (by have := HN6.out; omega)
  unfold RetPut16 at hp
  rw [← HQ.out] at hp
  obtain ⟨ps, hps⟩ : ∃ ps, ps = placesL (newP Fs Cn) l := ⟨_, rfl⟩
  rw [← hps] at hp HVO HPL
  obtain ⟨g, hg⟩ : ∃ g, g = genP (newP Fs Cn) := ⟨_, rfl⟩
  rw [← hg] at hp HVO
  have HPSL := qH hps
  obtain ⟨p0, hp0⟩ : ∃ p0, p0 = ps.getD 0 0 := ⟨_, rfl⟩
  rw [← hp0] at hp
  have HP0 := qH hp0
  clear hlt12 hvo hl hps hg hp0
  refine hp.mono ?_; clear hp; rintro e w3 ⟨bb, S3, rfl, hrb, hbb, hnb, hL, hf, hS3⟩
  have HUB := qH (show ¬ U bb from fun x => by have := L.out.pl.lt _ x; omega)
  have hval := putT_all (k := Kn) (n := Kn + M) (g := g) HVO.out (leaf_ok (g := g) (ps := ps) (b := x) HG0.out.1) (List.length_replicate ..) HNS.out new_gone
  have hgo := putT_gone (k := Kn) (n := Kn + M) (kd := 4) (ps := ps) (g := g) (T := leafL Kn ps g x) (xs := List.replicate (Kn + M) (Dv.new (Fs + Cn))) new_gone n
  have hwl := putT_wl (k := Kn) (n := Kn + M) (kd := 4) (ps := ps) (g := g) (T := leafL Kn ps g x) (c := 0) (xs := List.replicate (Kn + M) (Dv.new (Fs + Cn))) Idle.new.wl0 n
  have hbr : ∀ p, p < Fs + Cn → p ∉ ps → Bare (putT Kn (Kn + M) 4 ps g (leafL Kn ps g x) (List.replicate (Kn + M) (Dv.new (Fs + Cn))) n) Kn (Kn + M) (Fs + Cn) p := fun p hp hm => (Bare.new hp).put HVO.out (leaf_ok HG0.out.1) hm n (by rw [HPL.out]; exact Nat.le_refl _)
  rw [HPL.out] at hval
  obtain ⟨xs1, hxs1⟩ : ∃ xs1, xs1 = putT Kn (Kn + M) 4 ps g (leafL Kn ps g x) (List.replicate (Kn + M) (Dv.new (Fs + Cn))) n := ⟨_, rfl⟩
  rw [← hxs1] at hval hgo hwl hbr hL
  have HVAL := qH hval
  have HFX := qH (show ∀ (d : Nat) (x : Dv), xs1[d]? = some x → Fine x from by rw [hxs1]; exact putT_fine16 new_fine16 n)
  have HGO := qH hgo
  have HWL := qH hwl
  have HBR := qH hbr
  have hcn : cntL Cn (takenP (newP Fs Cn) l n).f = n := by
   have := takeAll_cnt (p := newP Fs Cn) HLT.out
   rw [show (newP Fs Cn).n = Cn from rfl, cnt16] at this
   exact (show cntL Cn (takenP (newP Fs Cn) l n).f = 0 + n from this).trans (Nat.zero_add n)
  have htk : ∀ x, x ∈ ps → ∃ j, j < Cn ∧ x = Fs + j ∧ (takenP (newP Fs Cn) l n).f j = true := fun x hx => by
   rw [HPSL.out] at hx
   obtain ⟨j, hj, e⟩ := placesL_mem16 hx
   obtain ⟨i, hi, e2⟩ := mem_getD15 hj
   rw [HLT.out.len] at hi
   have hfr := HLT.out.free i hi
   rw [e2] at hfr
   exact ⟨j, hfr.1, e, takeAll_new (p := newP Fs Cn) hfr.1 hj⟩
  obtain ⟨pp, hpp⟩ : ∃ pp, pp = takenP (newP Fs Cn) l n := ⟨_, rfl⟩
  have hpf : pp.n = Cn ∧ pp.a = Fs ∧ pp.e = 0 ∧ pp.t = n := by rw [hpp]; exact ⟨rfl, rfl, rfl, Nat.zero_add n⟩
  rw [← hpp] at hcn htk hL
  have HCN := qH hcn
  have HTK := qH htk
  have HPF := qH hpf
  have L := qH hL
  have sz := qH (size_sc16 (p0 : Int) (g : Int) (n : Int) (q : Int))
  obtain ⟨hro, hb⟩ := Ro16.new (a := (p0 : Int)) (g := (g : Int)) (z := (q : Int)) DK hL hrb hnb HUB.out
  clear hrb hbb hnb hL hf hS3 hval hgo hwl hbr hxs1 hcn htk hpp hpf
  have hnb := HN6.out.2
  have hn0b : ((n : Int) == 0) = false := by simp; omega
  go_wp2_with (refine at_none ?_; refine wpList_store_row (o := ⟨none, _, _, _, _, _⟩) rfl 38 (.tmp 10) (.tmp 42) rfl w3.heap.size #[.int .i64 (p0 : Int), .int .u64 (g : Int), .int .i64 (n : Int), .int .i64 (q : Int)] rfl rfl 38 _ (heap_alloc_last _ _) sz.out rfl one_sc16 ?_; rw [World.setRow_alloc_new])
  obtain ⟨w4, hw4⟩ : ∃ x, x = w3.alloc (.cells #[.int .i64 (p0 : Int), .int .u64 (g : Int), .int .i64 (n : Int), .int .i64 (q : Int)] 38) := ⟨_, rfl⟩
  rw [← hw4] at hro hb ⊢
  clear hw4
  obtain ⟨Y, hY⟩ : ∃ Y, Y = w3.heap.size := ⟨_, rfl⟩
  rw [← hY] at hro ⊢
  have L := qH (L.out.later DK hb)
  have RO := qH hro
  clear hro hb hY sz HUB HNS
  clear hn0b hnb
  have hfl := arflush_any DK L.out.lc.ac.a (Wl.mono13 HWL.out (by have := HN6.out; omega)) (by rw [L.out.lc.ac.len]; have := HG0.out; omega)
  refine hfl.mono ?_; clear hfl; rintro e wf ⟨rfl, hm⟩
  rw [L.out.lc.ac.len] at hm
  have HID := qH (flushS_idle L.out.lc.ac.len (fun d x hx => (L.out.lc.ac.n d x hx).1))
  obtain ⟨Sf, hL, hX⟩ := L.out.mut hm flushS_len (flushS_ns16 L.out.lc.ac.n) HID.out.wl0
  have L := qH hL
  have RO := qH (RO.out.nxt hX)
  have HVF := qH (HVAL.out.flush HVO.out)
  have HFI := qH (flushS_fine16 (n := Kn + M) HFX.out)
  obtain ⟨xf, hxf⟩ : ∃ xf, xf = flushS xs1 (Kn + M) := ⟨_, rfl⟩
  rw [← hxf] at L HVF HFI HID
  clear hm hL hX hxf HFX
  go_upto_region 8 with (fail)
  go_cut [13] (fun v wx => ∃ t : Nat, t < n ∧ v = .int .i64 (ps.getD t 0 : Nat) ∧ wx = wf)
  case first =>
   have hn60 : n ≤ 60 := HN6.out.1
   have hn0 : 0 < n := HN6.out.2
   have hcl := fun t (ht : t < n) => RO.out.r.cell (j := t) (ncells_at16 (l := ps) (by rw [HPL.out]; exact ht))
   obtain ⟨nl, hnl⟩ : ∃ nl, nl + 1 = n := ⟨n - 1, by omega⟩
   have HNL := qH hnl
   have HNW := qH (show IntKind.i64.wrap ((n : Int) - 1) = (nl : Int) from by rw [IntKind.wrap_i64]; omega)
   clear hnl
   rcases (show wh < 0 ∨ (0 ≤ wh ∧ wh < (n : Int) - 1) ∨ wh = (nl : Int) ∨ (nl : Int) < wh from by have := HNL.out; omega) with z | ⟨z1, z2⟩ | rfl | y1
   ·have y1 : wh < (n : Int) - 1 := by omega
    have y2 : ¬ (0 : Int) < wh := by omega
    have hc := hcl 0 hn0
    have i0 : (0 : Int) < (n : Int) := by omega
    clear hcl
    go_wp2_with fail
    all_goals
     go_meet
     exact ⟨0, hn0, rfl, rfl⟩
   ·obtain ⟨t, rfl⟩ : ∃ t : Nat, wh = (t : Int) := ⟨wh.toNat, by omega⟩
    have htn : t < n := by omega
    have hc := hcl t htn
    have i0 : (0 : Int) ≤ (t : Int) := by omega
    have i1 : (t : Int) < (n : Int) := by omega
    rcases Nat.eq_zero_or_pos t with rfl | hpos
    ·clear hcl
     go_wp2_with fail
     all_goals
      go_meet
      exact ⟨0, hn0, rfl, rfl⟩
    ·have y2 : (0 : Int) < (t : Int) := by omega
     clear hcl
     go_wp2_with fail
     all_goals
      go_meet
      exact ⟨t, htn, rfl, rfl⟩
   ·have y1 : ¬ (nl : Int) < (nl : Int) := by omega
    have hln : nl < n := by have := HNL.out; omega
    have i0 : (0 : Int) ≤ (nl : Int) := by omega
    have i1 : (nl : Int) < (n : Int) := by omega
    rcases Nat.eq_zero_or_pos nl with hz0 | hpos
    ·have y2 : ¬ (0 : Int) < (nl : Int) := by omega
     have hc := hcl 0 hn0
     have i2 : (0 : Int) < (n : Int) := by omega
     clear hcl hz0
     go_wp2_with (refine at_dst11 (d := 63) ?_; refine wpList_step11 (o := ⟨some 63, _, _, _, _, _⟩) rfl (.int .i64 (nl : Int)) _ (step_sub16 (x := .tmp 62) (y := .const (.int .i64 1)) rfl rfl rfl HNW.out) ?_)
     all_goals
      go_meet
      exact ⟨0, hn0, rfl, rfl⟩
    ·have y2 : (0 : Int) < (nl : Int) := by omega
     have hc := hcl nl hln
     clear hcl
     go_wp2_with (refine at_dst11 (d := 63) ?_; refine wpList_step11 (o := ⟨some 63, _, _, _, _, _⟩) rfl (.int .i64 (nl : Int)) _ (step_sub16 (x := .tmp 62) (y := .const (.int .i64 1)) rfl rfl rfl HNW.out) ?_)
     all_goals
      go_meet
      exact ⟨nl, hln, rfl, rfl⟩
   ·have y3 : ¬ wh < (nl : Int) := by omega
    have hln : nl < n := by have := HNL.out; omega
    have i0 : (0 : Int) ≤ (nl : Int) := by omega
    have i1 : (nl : Int) < (n : Int) := by omega
    rcases Nat.eq_zero_or_pos nl with hz0 | hpos
    ·have y2 : ¬ (0 : Int) < (nl : Int) := by omega
     have hc := hcl 0 hn0
     have i2 : (0 : Int) < (n : Int) := by omega
     clear hcl hz0
     go_wp2_with (refine at_dst11 (d := 63) ?_; refine wpList_step11 (o := ⟨some 63, _, _, _, _, _⟩) rfl (.int .i64 (nl : Int)) _ (step_sub16 (x := .tmp 62) (y := .const (.int .i64 1)) rfl rfl rfl HNW.out) ?_)
     all_goals
      go_meet
      exact ⟨0, hn0, rfl, rfl⟩
    ·have y2 : (0 : Int) < (nl : Int) := by omega
     have hc := hcl nl hln
     clear hcl
     go_wp2_with (refine at_dst11 (d := 63) ?_; refine wpList_step11 (o := ⟨some 63, _, _, _, _, _⟩) rfl (.int .i64 (nl : Int)) _ (step_sub16 (x := .tmp 62) (y := .const (.int .i64 1)) rfl rfl rfl HNW.out) ?_)
     all_goals
      go_meet
      exact ⟨nl, hln, rfl, rfl⟩
  case rest =>
   obtain ⟨t, htn, rfl, rfl⟩ := hcut
   have hat := HVO.out.at_ t (by rw [HPL.out]; exact htn)
   obtain ⟨pt, hpt⟩ : ∃ pt, pt = ps.getD t 0 := ⟨_, rfl⟩
   rw [← hpt] at hat ⊢
   have HPT := qH hpt.symm
   have HAT := qH hat
   have hM9 : M ≤ 9 := by have := HG0.out; omega
   have hLz : Lc15 Rep w1 wc Sf A C Kn M F T (Fs + Cn) (rotT pt xf 0) U P pp := L.out
   have hRz := RO.out
   have hcm := (HXW.out wc L.out.lc.bel).c1
   clear hat hpt L RO
   go_wp2_with fail
   clear hcm
   go_loopw [14] (fun dv wx => ∃ (d : Nat) (S5 : Nat → Prop), d ≤ M + 1 ∧ dv = .int .i64 (d : Int) ∧ Lc15 Rep w1 wx S5 A C Kn M F T (Fs + Cn) (rotT pt xf d) U P pp ∧ Ro16 wx S5 U Y bb (p0 : Int) (g : Int) n (q : Int) ps) (fun dv _ => M + 1 - (intOf dv).toNat)
   case atStart => exact ⟨0, Sf, by omega, rfl, hLz, hRz⟩
   case round =>
    clear hLz hRz
    obtain ⟨d, S5, hd, rfl, hlb, hro⟩ := hrel
    have L := qH hlb
    have RO := qH hro
    have hcm := (HXW.out wr L.out.lc.bel).c1
    clear hlb hro
    by_cases hdm : d ≤ M
    ·have hdi : (d : Int) ≤ (M : Int) := by omega
     go_wp2_with (refine at_dst11 (d := 77) ?_; refine wpList_step11 (o := ⟨some 77, _, _, _, _, _⟩) rfl _ _ (step_sc16 (x := .tmp 10) rfl rfl RO.out.y) ?_)
     refine (get16_any DK SV L.out.lc.ac r HR.out ps g x q n n p0 (fun i => if i = t then (fun e => decide (d ≤ e)) else fun _ => true) HQ.out.symm (by omega) HN.out (by have := HN6.out; omega) HPL.out HP0.out.symm HVO.out (by have := HVF.out.rotT16 (t := t) (d := d) HVO.out (leaf_ok HG0.out.1) HFI.out HID.out (by rw [HPL.out]; exact htn) (by have := HG0.out; omega); rwa [HPT.out] at this) (fun i _ _ => hGd _ _ _ (by
      by_cases e : i = t
      ·simp only [if_pos e]; rw [cntG_from]; omega
      ·simp only [if_neg e]; rw [cntG_all (fun _ _ => rfl)]; omega)) (fun h => absurd h (Nat.lt_irrefl _))).mono ?_; rintro e wg (⟨hle, A5, k5, A6, k6, rfl, hs5, hs6, hb5, -⟩ | ⟨hlt5, rfl, hb5⟩)
     rotate_left
     ·exact absurd hlt5 (Nat.lt_irrefl _)
     have L := qH (L.out.later DK hb5)
     have RO := qH (RO.out.later hb5)
     clear hs5 hs6 hb5 hcm
     have hxt : (rotT pt xf d)[d]? = some ((rotT pt xf d)[d]'(by rw [L.out.lc.ac.len]; have := HG0.out; omega)) := List.getElem?_eq_getElem _
     have hxf := hxt
     rw [rotT_at d (Nat.le_refl _)] at hxf
     have hro := arrot_any DK L.out.lc.ac.a (by rw [L.out.lc.ac.len]; have := HG0.out; omega) (d : Int) (pt : Int) ((16 : Nat) : Int) 255 (by omega) (by have := HAT.out; have := HG0.out; omega) (by decide) (by decide) (by decide)
     rw [tellD_yes hxt, rotX_fine16 (HFI.out d _ hxf) (by rw [(L.out.lc.ac.n d _ hxt).2]; exact HAT.out)] at hro
     clear hxt hxf
     go_wp2_with fail
     refine hro.mono ?_; clear hro; rintro e w9 ⟨rfl, hm⟩
     rw [show onD (rotT pt xf d) (d : Int) (fun x => x.rot1 (pt : Int) ((16 : Nat) : Int) ((255 : Nat) : Int)) = rotT pt xf (d + 1) from rfl] at hm
     obtain ⟨S6, hL, hX⟩ := L.out.mut hm ((rotT_len (d + 1)).trans (rotT_len d).symm) (fun e x hx => by
      rw [rotT] at hx
      rcases ofD_cases (rotT pt xf d) (d : Int) with ⟨i, y, e1, hy⟩ | hz
      ·by_cases hdt : e = d
       ·obtain rfl : i = e := by omega
        rw [e1, onD_yes hy, List.getElem?_set_self (get_lt hy)] at hx
        injection hx with hx
        obtain ⟨h1, h2⟩ := L.out.lc.ac.n _ y hy
        rw [← hx]
        exact ⟨h1.rot1 _ _ _, by rw [rot1_n]; exact h2⟩
       ·rw [onD_ne (by omega)] at hx
        exact L.out.lc.ac.n e x hx
      ·rw [onD_no hz] at hx
       exact L.out.lc.ac.n e x hx) (by
      rw [rotT]
      exact onD_wl L.out.lc.ac.wl fun x hx => by rw [rot1_wait]; exact hx)
     have L := qH hL
     have RO := qH (RO.out.nxt hX)
     clear hm hL hX
     go_wp2_with fail
     go_roundw
     case rel => exact ⟨d + 1, S6, by omega, by go_num, L.out, RO.out⟩
     case measure => simp [intOf]; omega
    ·obtain rfl : d = M + 1 := by omega
     have hdi : ¬ ((M + 1 : Nat) : Int) ≤ (M : Int) := by omega
     go_wp2_with (refine at_dst11 (d := 94) ?_; refine wpList_step11 (o := ⟨some 94, _, _, _, _, _⟩) rfl _ _ (step_sc16 (x := .tmp 10) rfl rfl RO.out.y) ?_)
     refine (get16_any DK SV L.out.lc.ac r HR.out ps g x q n t p0 (fun i => if i = t then (fun e => decide (M + 1 ≤ e)) else fun _ => true) HQ.out.symm (by omega) HN.out (by have := HN6.out; omega) HPL.out HP0.out.symm HVO.out (by have := HVF.out.rotT16 (t := t) (d := M + 1) HVO.out (leaf_ok HG0.out.1) HFI.out HID.out (by rw [HPL.out]; exact htn) (by have := HG0.out; omega); rwa [HPT.out] at this) (fun i _ hi => hGd _ _ _ (by
      simp only [if_neg (show ¬ i = t by omega)]; rw [cntG_all (fun _ _ => rfl)]; omega)) (fun _ => ⟨SL, by
      simp only [if_pos]; rw [cntG_from]; have := HG0.out; omega⟩)).mono ?_; rintro e wg (⟨hle, A5, k5, A6, k6, rfl, hs5, hs6, hb5, -⟩ | ⟨hlt5, rfl, hb5⟩)
     ·exact absurd htn (by omega)
     have L := qH (L.out.later DK hb5)
     clear hb5 hcm hdi
     go_wp2_with fail
     have BL := qH (B1.out.trans (L.out.lc.bel.mono B1.out.size))
     refine (HK.out _ BL.out).mono ?_; rintro e wz ⟨rfl, hb⟩
     have BZ := qH (BL.out.trans (hb.mono BL.out.size))
     clear hb
     go_wp2_with fail
     go_ret
     exact ⟨rfl, BZ.out⟩
end
end Go.Proofs.YtokbhgbajdomnaaGreatDoor
