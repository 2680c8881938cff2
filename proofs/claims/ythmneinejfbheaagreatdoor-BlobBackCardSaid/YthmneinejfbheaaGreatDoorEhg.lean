/-
  The contract of package blob's Put. Conditions: bounds; both tables read as the row lists them. (Written by gen_ehg.py.)
-/
import Derived.Test.YthmneinejfbheaaGreatDoorEhf
set_option linter.unusedVariables false
set_option maxRecDepth 20000
set_option maxHeartbeats 3200000
namespace Go.Proofs.YthmneinejfbheaaGreatDoor
open Go.RowKit Go.Proofs
theorem piece_cut {R i : Nat} {b : List UInt8} : (b.drop (i * R)).take (min ((i + 1) * R) b.length - i * R) = pieceL R b i := by
 have e : (i + 1) * R = i * R + R := by rw [Nat.add_mul, Nat.one_mul]
 rw [e, pieceL]
 rcases Nat.le_total (i * R + R) b.length with h | h
 ·rw [Nat.min_eq_left h, Nat.add_sub_cancel_left]
 ·rw [Nat.min_eq_right h, List.take_of_length_le (by rw [List.length_drop]; exact Nat.le_refl _), List.take_of_length_le (by rw [List.length_drop]; omega)]
theorem piece_min {R i : Nat} {b : List UInt8} (h : i * R ≤ b.length) : (pieceL R b i).length = min ((i + 1) * R) b.length - i * R := by
 have e : (i + 1) * R = i * R + R := by rw [Nat.add_mul, Nat.one_mul]
 rw [piece_len, e]
 omega
theorem Sl.sub15 {w : World} {n c : Nat} {A : Option Addr} {l : List UInt8} (h : Sl w 1 A n c (cells l)) (lo hi : Nat) (h1 : lo ≤ hi) (h2 : hi ≤ n) : Sl w 1 (if c = lo then A else A.map fun x => x.add lo) (hi - lo) (c - lo) (cells ((l.drop lo).take (hi - lo))) := by
 have hc := h.cap
 have ht := h.top
 split
 ·obtain rfl : hi = lo := by omega
  rw [Nat.sub_self, List.take_zero]
  exact ⟨rfl, by omega, by omega, fun j u hu => by simp [cells] at hu⟩
 ·exact h.sub1 lo hi (c - lo) h1 h2 (by omega) (by omega)
theorem step_ref15 {ρ : Operand → Value} {o : Oper} {x : Operand} {w : World} {b off : Nat} {r : Int × Int × Int} (ho : o.op = .load 35 x) (hx : ρ x = .pointer (some ⟨b, off, none⟩)) (h : w.rangeAt b off (r3c r)) : (execOp ρ o).run Tryz.prog w = .ok (.value (.agg (r3c r).toArray)) w := by
 unfold execOp
 simp only [ho, hx, Instr.loadAt, Instr.sureAddr, Sem.run_bind, Sem.run_pure, Result.andThen_ok, run_loadVar_mid w b off 35 (r3c r) _ h Tryz.underlying35 rfl (size_r3c r)]
theorem u64_gen {g i : Nat} (h : g + i < 18446744073709551616) : IntKind.u64.wrap ((g : Int) + (i : Int)) = ((g + i : Nat) : Int) := by
 rw [IntKind.wrap_u64]
 omega
theorem ncells_icells15 (l : List Nat) : ncells l = icells (intsOf l) := by rw [intsOf, ← ncells_icells]
theorem intsOf_at {l : List Nat} {i : Nat} (h : i < l.length) : (intsOf l).getD i 0 = (l.getD i 0 : Nat) := by
 rw [intsOf, List.getD_eq_getElem?_getD, List.getElem?_map, List.getElem?_eq_getElem h, List.getD_eq_getElem?_getD, List.getElem?_eq_getElem h]
 rfl
section
variable {Rep : World → (Nat → Prop) → Nat → Dv → Prop} {Good : Nat → Nat → (Nat → Bool) → Prop} {w0 w w' : World} {S U : Nat → Prop} {A C k m F T N P : Nat} {xs : List Dv} {p : Ps}
def RetPut15 (Rep : World → (Nat → Prop) → Nat → Dv → Prop) (w0 : World) (S : Nat → Prop) (A C k m F T N : Nat) (xs : List Dv) (U : Nat → Prop) (P : Nat) (p : Ps) (b : List UInt8) (n : Nat) (l : List Nat) (w : World) (e : Ending) (w' : World) : Prop :=
 ∃ bb S', e = .returned (.tuple #[.agg #[.slice (some ⟨bb, 0, none⟩) n n, .int .u64 (genP p : Nat), .int .i64 (b.length : Int)], .int .i64 0]) ∧ Rw w' bb 3 1 n n (ncells (placesL p l)) ∧ w.heap.size ≤ bb ∧ ¬ S' bb ∧ Lc15 Rep w0 w' S' A C k m F T N (putV k (k + m) (placesL p l) (genP p) b xs n) U P (takenP p l n) ∧ Fr (fun x => S x ∨ U x) w w' ∧ ∀ x, S' x → S x ∨ w.heap.size ≤ x
theorem put15_yes (DK : DrvK Rep) (SV : StrV Rep Good) (h : Lc15 Rep w0 w S A C k m F T N xs U P p) (hT : Tz w0) (b : List UInt8) (A2 : Option Addr) (q c2 n c : Nat) (l : List Nat) (hq : b.length = q) (hZ : q ≤ 400) (hs : Sl w 1 A2 q c2 (cells b)) (hA : ∀ bb o, 0 < q → A2 = some ⟨bb, o, none⟩ → ¬ S bb ∧ ¬ U bb)
  (hn : countN (44 * k) q = n) (hl : leastD p.n p.f (n : Int) = l) (hlen : Lt12 p.n n p.f l) (ht : p.t + n ≤ 1048576) (hN : N ≤ 65536) (hpN : p.a + p.n ≤ N) (hw : Wl c xs) (hc : c + 10 ≤ 1000) :
  Calls Tryz.prog 19 #[.pointer (some ⟨A, 0, none⟩), .pointer (some ⟨C, 0, none⟩), .pointer (some ⟨P, 0, none⟩), .slice A2 q c2] w (RetPut15 Rep w0 S A C k m F T N xs U P p b n l w) := by
 have hk := h.lc.ac.c.k1
 have hk255 := h.lc.ac.c.n255
 have hn10 : n ≤ 10 := by rw [← hn]; exact countN_small (by omega) hZ
 have hok := h.pl.ok
 have hv : VOk k N (placesL p l) (genP p) := vok15 hlen hk (by omega) hN hpN (by have := hok.e2; have := hok.t2; unfold genP; omega)
 have hpl : (placesL p l).length = n := by rw [placesL, List.length_map, hlen.len]
 have H := qH h
 have HT := qH hT
 have HS := qH hs
 have HA := qH hA
 have HN := qH hn
 have HL := qH hl
 have HE := qH hlen
 have HV := qH hv
 have HPL := qH hpl
 have HW := qH hw
 have HQ := qH hq
 have HCT := qH (show countZ (44 * k) (q : Int) = n by rw [countZ_nat (by omega)]; exact hn)
 have hz : ¬ (400 : Int) < (q : Int) := by omega
 unfold RetPut15
 rw [hq]
 obtain ⟨ps, hps⟩ : ∃ ps, ps = placesL p l := ⟨_, rfl⟩
 rw [← hps] at HV HPL ⊢
 obtain ⟨g, hg⟩ : ∃ g, g = genP p := ⟨_, rfl⟩
 rw [← hg] at HV ⊢
 have HPS := qH hps
 have HG := qH hg
 clear h hT hs hA hn hl hlen hv hpl hw hok hps hg hq
 go_enter Tryz.func19, Tryz.ntmps19
 go_wp2_with fail
 have hba : Below w.heap.size w (w.alloc (.cells #[.slice none 0 0, .int .u64 0, .int .i64 0] 25)) := (Below.refl _ _).alloc (Nat.le_refl _) _
 have hxa := zero_bl3 (w := w)
 obtain ⟨wa, hwa⟩ : ∃ x, x = w.alloc (.cells #[.slice none 0 0, .int .u64 0, .int .i64 0] 25) := ⟨_, rfl⟩
 rw [← hwa] at hba hxa ⊢
 clear hwa
 obtain ⟨B, hB⟩ : ∃ B, B = w.heap.size := ⟨_, rfl⟩
 rw [← hB] at hxa ⊢
 have HB := qH hB
 have FB := qH (H.out.fresh (b := B) (by omega))
 have La := qH (H.out.later DK hba)
 have Ba := qH hba
 have Xa := qH hxa
 have Sa := qH (HS.out.below hba (Nat.le_refl _))
 have hg0 := gens_any U P p 0 wa La.out.pl
 unfold RetGens14 at hg0
 clear hba hxa hB
 refine hg0.mono ?_; clear hg0; rintro e w1 (⟨h2, _⟩ | ⟨_, h2, _⟩ | ⟨_, _, rfl, hp, hf⟩)
 ·omega
 ·have := H.out.pl.ok.t2
  omega
 have L1 := qH (La.out.turn DK (show Pl w1 U P p from hp) hf)
 have X1 := qH (show Bl3 w1 B none 0 0 0 0 from hf.row_some Xa.out FB.out.2.1)
 have S1 := qH (Sa.out.fr hf (fun bb o h0 hA => (HA.out bb o h0 hA).2))
 have F1 := qH ((Fr.of_below (S := U) Ba.out).trans hf)
 have ht1 := there_yes L1.out.lc.ac
 clear hp hf La Xa Sa
 go_wp2_with fail
 refine ht1.mono ?_; clear ht1; rintro e w2 ⟨rfl, hb⟩
 have L2 := qH (L1.out.later DK hb)
 have X2 := qH (X1.out.later hb)
 have S2 := qH (S1.out.below hb (Nat.le_refl _))
 have F2 := qH (F1.out.trans (Fr.of_below hb))
 have ht2 := take15_yes DK L2.out HT.out q n l hZ HN.out HL.out HE.out.len ht
 rw [← HG.out, ← HPS.out] at ht2
 clear hb L1 X1 S1 F1
 go_wp2_with fail
 refine ht2.mono ?_; clear ht2; rintro e w3 ⟨bb, rfl, hr, hbb, hL, hf⟩
 have X3 := qH (show Bl3 w3 B none 0 0 0 0 from hf.row_some X2.out FB.out.2.1)
 have S3 := qH (S2.out.fr hf (fun bb o h0 hA => (HA.out bb o h0 hA).2))
 have F3 := qH (F2.out.trans hf)
 have L3 := qH hL
 have R3 := qH hr
 have HBB := qH (show w.heap.size ≤ bb from by have := F2.out.size; omega)
 clear hr hbb hL hf L2 X2 S2 F2
 have sz := qH (size_bl3 (A := some ⟨bb, 0, none⟩) (n := n) (c := n) (g := (g : Int)) (z := (q : Int)))
 go_wp2_with (first
  | (refine at_none ?_; refine wpList_store_row (o := ⟨none, _, _, _, _, _⟩) rfl 25 (.tmp 12) (.tmp 44) rfl w3.heap.size #[.slice (some ⟨bb, 0, none⟩) n n, .int .u64 (g : Int), .int .i64 (q : Int)] rfl rfl 25 _ (heap_alloc_last _ _) sz.out rfl one_bl3 ?_; rw [World.setRow_alloc_new])
  | (refine at_dst11 (d := 50) ?_; refine wpList_step11 (o := ⟨some 50, _, _, _, _, _⟩) rfl _ _ (step_bl3 (x := .tmp 12) rfl rfl Bl3.new) ?_))
 have hb4 : Below w3.heap.size w3 (w3.alloc (.cells #[.slice (some ⟨bb, 0, none⟩) n n, .int .u64 (g : Int), .int .i64 (q : Int)] 25)) := (Below.refl _ _).alloc (Nat.le_refl _) _
 have hy4 := Bl3.new (w := w3) (A := some ⟨bb, 0, none⟩) (n := n) (c := n) (g := (g : Int)) (z := (q : Int))
 obtain ⟨w4, hw4⟩ : ∃ x, x = w3.alloc (.cells #[.slice (some ⟨bb, 0, none⟩) n n, .int .u64 (g : Int), .int .i64 (q : Int)] 25) := ⟨_, rfl⟩
 rw [← hw4] at hb4 hy4 ⊢
 clear hw4
 obtain ⟨Y, hY⟩ : ∃ Y, Y = w3.heap.size := ⟨_, rfl⟩
 rw [← hY] at hy4 ⊢
 have HYB := qH (show w.heap.size ≤ Y from by have := F3.out.size; omega)
 have R4 := qH (R3.out.later hb4)
 have hsl4 : Sl w4 1 (some ⟨bb, 0, none⟩) n n (icells (intsOf ps)) := by rw [← ncells_icells15]; exact R4.out.sl
 have hrf := refs15 (some ⟨bb, 0, none⟩) n n (intsOf ps) (g : Int) (q : Int) w4 hsl4 (by rw [intsOf_length, HPL.out]) (by omega)
 have X4 := qH (X3.out.later hb4)
 have S4 := qH (S3.out.below hb4 (Nat.le_refl _))
 have F4 := qH (F3.out.trans (Fr.of_below hb4))
 have L4 := qH (L3.out.later DK hb4)
 have Y4 := qH hy4
 clear hb4 hy4 hY hsl4 X3 S3 F3 L3 R3
 refine hrf.mono ?_; clear hrf; rintro e w5 ⟨rb, rfl, hrr, hb5, hrb⟩
 have X5 := qH (X4.out.later hb5)
 have S5 := qH (S4.out.below hb5 (Nat.le_refl _))
 have F5 := qH (F4.out.trans (Fr.of_below hb5))
 have L5 := qH (L4.out.later DK hb5)
 have R5 := qH (R4.out.later hb5)
 have Q5 := qH hrr
 have HRB := qH (show w.heap.size ≤ rb from by have := F4.out.size; omega)
 have hy5 := Y4.out.later hb5
 have Y5 := qH hy5
 have c2 := hy5.c2
 have hct := count15 (Rm.of L5.out.lc.ac.c) (q : Int) (by omega) (by omega)
 rw [HCT.out] at hct
 clear hrr hb5 hrb hy5 X4 S4 F4 L4 R4 Y4 sz
 go_wp2_with fail
 refine hct.mono ?_; clear hct; rintro e w6 ⟨rfl, hw6⟩
 obtain rfl : w5 = w6 := hw6.symm
 clear c2
 go_wp2_with fail
 have NS := qH (show ∀ x, w.heap.size ≤ x → ¬ S x from fun x hx hs => by have := H.out.lc.ac.a.old hs; omega)
 go_loopw [56] (fun iv wr => ∃ (i : Nat) (S' : Nat → Prop), i ≤ n ∧ iv = .int .i64 (i : Int) ∧ Lc15 Rep w0 wr S' A C k m F T N (putV k (k + m) ps g b xs i) U P (takenP p l n) ∧ Nxt S S' w5 wr) (fun iv _ => n - (intOf iv).toNat)
 case atStart => exact ⟨0, S, by omega, rfl, L5.out, Nxt.refl _ _⟩
 case round =>
  obtain ⟨i, S', hi, rfl, hL, hX⟩ := hrel
  have LL := qH hL
  have XX := qH hX
  clear hL hX
  by_cases hlt : i < n
  ·have hii : (i : Int) < (n : Int) := by omega
   have Yr := qH (show Bl3 wr Y (some ⟨bb, 0, none⟩) n n (g : Int) (q : Int) from XX.out.1.row_some Y5.out (NS.out _ HYB.out))
   have c2 := Yr.out.c2
   have hpt := part15 (Rm.of LL.out.lc.ac.c) q i hZ (by omega)
   have hql : i * (44 * k) ≤ q := Nat.le_of_lt (countN_last (by omega) (by rw [HN.out]; exact hlt))
   have hq12 : i * (44 * k) ≤ min ((i + 1) * (44 * k)) q := Nat.le_min.2 ⟨Nat.mul_le_mul_right _ (by omega), hql⟩
   have hq22 : min ((i + 1) * (44 * k)) q ≤ q := Nat.min_le_right _ _
   have hcut := piece_cut (R := 44 * k) (i := i) (b := b)
   have hmin := piece_min (R := 44 * k) (i := i) (b := b) (by rw [HQ.out]; exact hql)
   rw [HQ.out] at hcut hmin
   obtain ⟨q1, hq1⟩ : ∃ q1, q1 = i * (44 * k) := ⟨_, rfl⟩
   obtain ⟨q2, hq2⟩ : ∃ q2, q2 = min ((i + 1) * (44 * k)) q := ⟨_, rfl⟩
   rw [← hq1] at hpt hql hq12 hcut hmin
   rw [← hq2] at hpt hq12 hq22 hcut hmin
   have HCUT := qH hcut
   have HMIN := qH hmin
   clear hq1 hq2 hql hcut hmin
   go_wp2_with fail
   refine hpt.mono ?_; clear hpt; rintro e w6 ⟨rfl, hw6⟩
   obtain rfl : wr = w6 := hw6.symm
   clear c2 Yr
   go_wp2_with fail
   have hip : i < ps.length := by rw [HPL.out]; exact hlt
   have Sr := qH (S5.out.fr XX.out.1 (fun bb o h0 hA => (HA.out bb o h0 hA).1))
   have hcp : q ≤ c2 := Sr.out.cap
   have NRB := qH (show ¬ S' rb from fun x => (XX.out.2 _ x).elim (NS.out _ HRB.out) (fun x => by have := Q5.out.lt; omega))
   have Qr := qH ((Q5.out.fr XX.out.1 (NS.out _ HRB.out)).later (Below.drew (Below.refl _ _)))
   have hat := refsL_at (zs := intsOf ps) (g := (g : Int)) (i := i) (by rw [intsOf_length]; exact hip)
   have hri := HV.out.ref (b := b) hip
   rw [intsOf_at hip, u64_gen (by have := hri.g; omega)] at hat
   have HAT := qH hat
   have HRI := qH hri
   have HPN := qH (HV.out.at_ i hip)
   clear hat hri hip
   obtain ⟨pi, hpi⟩ : ∃ pi, pi = ps.getD i 0 := ⟨_, rfl⟩
   rw [← hpi] at HAT HRI HPN
   have HPI := qH hpi
   clear hpi
   obtain ⟨gi, hgi⟩ : ∃ gi, gi = g + i := ⟨_, rfl⟩
   rw [← hgi] at HAT HRI
   have HGI := qH hgi
   clear hgi
   have LD := qH (LL.out.later DK (Below.drew (Below.refl _ _)))
   have SD := qH (Sr.out.below (Below.drew (Below.refl _ _)) (Nat.le_refl _))
   have i1 : (0 : Int) ≤ (i : Int) := by omega
   have i2 : (0 : Int) ≤ (q1 : Int) := by omega
   have i3 : (q1 : Int) ≤ (q2 : Int) := by omega
   have i4 : (q2 : Int) ≤ (c2 : Int) := by omega
   refine wp_region_held_drew (S := fun w' => Fr (S') wr.drew w') (by kernel_rfl) (Fr.refl _ _) (fun hHeld => ?_)
   clear hHeld
   refine tA 0 (some 68) rfl (Fr.refl _ _) ?_
   refine tA 1 (some 69) rfl (Fr.refl _ _) ?_
   refine tA 2 (some 70) rfl (Fr.refl _ _) ?_
   refine tA 3 (some 71) rfl (Fr.refl _ _) ?_
   refine tA 4 (some 72) rfl (Fr.refl _ _) ?_
   refine tL 5 (some 73) (v := (.agg #[.int .u8 3, .int .i64 (pi : Int), .int .u64 (gi : Int)])) rfl ?yp5 (Fr.refl _ _) ?rp5
   case yp5 =>
    intro wq hSw
    exact step_ref15 (x := .tmp 72) rfl rfl ((Qr.out.fr hSw NRB.out).refAt HAT.out)
   try simp only [Act.put,sA,sB,sC]
   refine tA 6 (some 74) rfl (Fr.refl _ _) ?_
   refine tA 7 (some 75) rfl (Fr.refl _ _) ?_
   refine tA 8 (some 76) rfl (Fr.refl _ _) ?_
   refine tA 9 (some 77) rfl (Fr.refl _ _) ?_
   refine rW 10 (some 78) rfl fun K hK => ?_
   go_simp
   have hsl := SD.out.sub15 q1 q2 (by omega) (by omega)
   rw [HCUT.out, ← HMIN.out] at hsl
   obtain ⟨AV, hAV⟩ : ∃ AV, AV = (if c2 = q1 then A2 else A2.map fun x => x.add q1) := ⟨_, rfl⟩
   rw [← hAV] at hsl ⊢
   clear hAV
   have hp := SV.put 3 pi gi (pieceL (44 * k) b i) _ _ LD.out.lc.ac HRI.out HPN.out hsl
   rw [HMIN.out] at hp
   refine hp.mono ?_; clear hp hsl; rintro e w8 ⟨rfl, hm⟩
   rw [show putAll k (k + m) 3 pi gi (pieceL (44 * k) b i) (putV k (k + m) ps g b xs i) = putV k (k + m) ps g b xs (i + 1) from by rw [HPI.out, HGI.out]; rfl] at hm
   obtain ⟨S8, hL8, hX8⟩ := LD.out.mut hm ((putV_len (i + 1)).trans (putV_len i).symm) (putV_ns HV.out H.out.lc.ac.len H.out.lc.ac.n (i + 1) (by rw [HPL.out]; omega)) (Wl.mono13 (putV_wl HW.out (i + 1)) (by omega))
   have hfr : Fr (fun b => S' b) wr.drew w8 := hX8.1
   have L8 := qH hL8
   have X8 := qH (XX.out.trans (hX8.below (Below.drew (Below.refl _ _))))
   clear hm hL8 hX8
   go_wp2_with fail
   refine hK.out _ _ hfr (fun hHeld => ?_)
   clear hK K hHeld
   try simp only [Act.put,sA,sB,sC]
   refine wpAnyH_re (S' := fun w' => Fr (S') w8 w') (fun w' h => hfr.trans h) ?_
   clear hfr
   refine tA 11 (some 67) rfl (Fr.refl _ _) ?_
   refine tA 12 (some 79) rfl (Fr.refl _ _) ?_
   refine tA 13 (some 80) rfl (Fr.refl _ _) ?_
   refine tA 14 (some 18) rfl (Fr.refl _ _) ?_
   refine tA 15 (some 19) rfl (Fr.refl _ _) ?_
   refine tD ?_
   go_wp2_with fail
   go_roundw
   case rel => exact ⟨i + 1, S8, by omega, by go_num, L8.out, X8.out⟩
   case measure => simp [intOf]; omega
  ·obtain rfl : i = n := by omega
   have sz := qH (size_bl3 (A := some ⟨bb, 0, none⟩) (n := i) (c := i) (g := (g : Int)) (z := (q : Int)))
   have Yr := qH (show Bl3 wr Y (some ⟨bb, 0, none⟩) i i (g : Int) (q : Int) from XX.out.1.row_some Y5.out (NS.out _ HYB.out))
   have Xr := qH (show Bl3 wr B none 0 0 0 0 from XX.out.1.row_some X5.out FB.out.1)
   have Rr := qH (R5.out.fr XX.out.1 (NS.out _ HBB.out))
   go_wp2_with (first
    | (refine at_dst11 (d := 89) ?_; refine wpList_step11 (o := ⟨some 89, _, _, _, _, _⟩) rfl _ wr (step_bl3 (x := .tmp 12) rfl rfl Yr.out) ?_)
    | (refine at_none ?_; refine wpList_store_row (o := ⟨none, _, _, _, _, _⟩) rfl 25 (.tmp 8) (.tmp 89) rfl B #[.slice (some ⟨bb, 0, none⟩) i i, .int .u64 (g : Int), .int .i64 (q : Int)] rfl rfl 25 _ Xr.out sz.out rfl one_bl3 ?_))
   have hfs : Fr (fun b => b = B) wr (wr.setRow B #[.slice (some ⟨bb, 0, none⟩) i i, .int .u64 (g : Int), .int .i64 (q : Int)]) := Fr.setRow1 _
   have hNB : bb ≠ B := fun e => by
    subst e
    have h1 := Xr.out
    obtain ⟨cur, h3, _⟩ := Rr.out.ex
    rw [show wr.heap[bb]? = _ from h1] at h3
    injection h3 with h3
    injection h3 with _ h3 _
    exact absurd h3 (by decide)
   refine bodyPost_ret (results_cell_pair Tryz.results19 _ _ B 25 _ (0, 0) _ rfl (setRow_heap _ _ _ _ _ _ Xr.out) Tryz.underlying25 rfl sz.out) rfl ?_
   refine ⟨bb, S', rfl, Rr.out.fr hfs hNB, HBB.out, fun x => (XX.out.2 _ x).elim (NS.out _ HBB.out) (fun x => by have := R5.out.lt; omega), LL.out.box DK hfs (fun x hx => ?_), ?_, fun x hx => (XX.out.2 x hx).imp id (fun y => by have := F5.out.size; omega)⟩
   ·have hx : x = B := hx
    subst hx
    exact ⟨by have := H.out.lc.bel.size; have := HB.out; omega, fun y => (XX.out.2 _ y).elim FB.out.1 (fun y => by have := block_lt X5.out; omega), FB.out.2⟩
   ·exact ((F5.out.mono (fun x hx => .inr hx)).trans (XX.out.1.mono (fun x hx => .inl hx))).setRow (by have := HB.out; omega) _
end
end Go.Proofs.YthmneinejfbheaaGreatDoor
