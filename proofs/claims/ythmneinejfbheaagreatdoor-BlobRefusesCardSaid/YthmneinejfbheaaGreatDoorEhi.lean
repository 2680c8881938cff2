/-
  The contract of package blob's Get of a value whose stripes are good enough; and of Get without an array or a coder. Conditions: bounds. (Written by gen_ehi.py.)
-/
import Derived.Test.YthmneinejfbheaaGreatDoorEhg
set_option linter.unusedVariables false
set_option maxRecDepth 20000
set_option maxHeartbeats 3200000
namespace Go.Proofs.YthmneinejfbheaaGreatDoor
open Go.RowKit Go.Proofs
theorem below_intsOf (l : List Nat) : belowL (intsOf l) = false := by
 rw [belowL, List.any_eq_false]
 intro z hz
 rw [intsOf, List.mem_map] at hz
 obtain ⟨x, _, rfl⟩ := hz
 simp
theorem rightZ_ints {R q : Nat} {l : List Nat} (hR : 0 < R) (hq : q ≤ 400) (hl : l.length = countN R q) : rightZ R (intsOf l) (q : Int) = true := by
 rw [rightZ, below_intsOf, intsOf_length, countZ_nat hR, hl, decide_eq_true (show (0 : Int) ≤ (q : Int) by omega), decide_eq_true (show (q : Int) ≤ 400 by omega), decide_eq_true rfl]
 rfl
theorem Rw.empty15 (w : World) (q : Nat) (hq : q ≤ 400) : Rw (w.alloc (.cells (madeCells #[.int .u8 0] q) 5)) w.heap.size 5 1 0 q [] :=
 ⟨⟨_, heap_alloc_new w _, by rw [size_madeCells, Nat.mul_one], rfl⟩, Nat.zero_le _, by unfold maxLen; omega⟩
section
variable {Rep : World → (Nat → Prop) → Nat → Dv → Prop} {Good : Nat → Nat → (Nat → Bool) → Prop} {w w' : World} {S : Nat → Prop} {A C k m F T N : Nat} {xs : List Dv}
theorem Ac13.fresh (h : Ac13 Rep w S A C k m F T N xs) {b : Nat} (hb : w.heap.size ≤ b) : ¬ S b ∧ b ≠ C ∧ b ≠ F ∧ b ≠ T ∧ b ≠ 1 := by
 have h1 := block_lt h.c.row
 have h2 : F < w.heap.size := World.block_lt_of_cell? w _ h.c.fld.cell
 have h3 := h.c.fld.fld.ltT
 have h4 := h.nt.lt13
 exact ⟨fun q => by have := h.a.old q; omega, by omega, by omega, by omega, by omega⟩
theorem Ac13.box (DK : DrvK Rep) {V : Nat → Prop} (h : Ac13 Rep w S A C k m F T N xs) (hf : Fr V w w') (hV : ∀ b, V b → ¬ S b ∧ b ≠ C ∧ b ≠ F ∧ b ≠ T ∧ b ≠ 1) : Ac13 Rep w' S A C k m F T N xs :=
 ⟨h.a.fr DK.lay hf fun b hb hu => (hV b hu).1 hb, h.c.fr hf (fun q => (hV _ q).2.1 rfl) (fun q => (hV _ q).2.2.1 rfl) (fun q => (hV _ q).2.2.2.1 rfl), h.ap, h.len, h.n, h.wl, h.nt.fr13 hf (fun q => (hV _ q).2.2.2.2 rfl), h.ng⟩
def RetGet15 (b : List UInt8) (w : World) (e : Ending) (w' : World) : Prop := ∃ A3 c3, e = .returned (.tuple #[.slice A3 b.length c3, .int .i64 0]) ∧ NewB w A3 b.length c3 b w'
theorem get15_yes (DK : DrvK Rep) (SV : StrV Rep Good) (h : Ac13 Rep w S A C k m F T N xs) (ps : List Nat) (g : Nat) (b : List UInt8) (q n c2 : Nat) (AV : Option Addr) (G : Nat → Bool) (hq : b.length = q) (hZ : q ≤ 400) (hn : countN (44 * k) q = n) (hpl : ps.length = n)
  (hv : VOk k N ps g) (hval : Val xs k (k + m) N ps g b G) (hG : Good k (k + m) G) (hs : Sl w 1 AV n c2 (icells (intsOf ps))) :
  Calls Tryz.prog 22 #[.pointer (some ⟨A, 0, none⟩), .pointer (some ⟨C, 0, none⟩), .agg #[.slice AV n c2, .int .u64 (g : Int), .int .i64 (q : Int)]] w (RetGet15 b w) := by
 have hk := h.c.k1
 have hk255 := h.c.n255
 have hn10 : n ≤ 10 := by rw [← hn]; exact countN_small (by omega) hZ
 have H := qH h
 have HR := qH (rightZ_ints (R := 44 * k) (l := ps) (by omega) hZ (by rw [hn, hpl]))
 have HCT := qH (show countZ (44 * k) (q : Int) = n by rw [countZ_nat (by omega)]; exact hn)
 have HS := qH hs
 have HN := qH hn
 have HPL := qH hpl
 have HV := qH hv
 have HVAL := qH hval
 have HGD := qH hG
 have HQ := qH hq
 have hmk := make0_eq (q : Int) q rfl (by omega)
 obtain ⟨i0, hi0, hz0, hz1, hz2⟩ := info_parts info_u8
 have Hi0 := qH hi0
 have Hz0 := qH hz0
 have Hz1 := qH hz1
 have Hz2 := qH hz2
 unfold RetGet15
 rw [hq]
 have HMK := qH hmk
 clear h hn hpl hv hval hG hs hq hi0 hz0 hz1 hz2 hmk
 go_enter Tryz.func22, Tryz.ntmps22
 go_wp2_with fail
 have hba : Below w.heap.size w (w.alloc (.cells #[.slice AV n c2, .int .u64 (g : Int), .int .i64 (q : Int)] 25)) := (Below.refl _ _).alloc (Nat.le_refl _) _
 have hxa := Bl3.new (w := w) (A := AV) (n := n) (c := c2) (g := (g : Int)) (z := (q : Int))
 obtain ⟨wa, hwa⟩ : ∃ x, x = w.alloc (.cells #[.slice AV n c2, .int .u64 (g : Int), .int .i64 (q : Int)] 25) := ⟨_, rfl⟩
 rw [← hwa] at hba hxa ⊢
 clear hwa
 obtain ⟨B, hB⟩ : ∃ B, B = w.heap.size := ⟨_, rfl⟩
 rw [← hB] at hxa ⊢
 have Aa := qH (H.out.later DK hba)
 have ht1 := there_yes Aa.out
 have Xa := qH hxa
 have Ba := qH hba
 clear hba hxa hB
 refine ht1.mono ?_; clear ht1; rintro e w1 ⟨rfl, hb⟩
 have A1 := qH (Aa.out.later DK hb)
 have X1 := qH (Xa.out.later hb)
 have B1 := qH (Ba.out.trans (hb.mono Ba.out.size))
 have S1 := qH (HS.out.below B1.out (Nat.le_refl _))
 have hrt := right15 AV n c2 (intsOf ps) (g : Int) (q : Int) w1 (Rm.of A1.out.c) S1.out (by rw [intsOf_length, HPL.out]) (by omega) (by omega)
 rw [HR.out] at hrt
 clear hb Aa Xa Ba
 go_wp2_with (refine at_dst11 (d := 21) ?_; refine wpList_step11 (o := ⟨some 21, _, _, _, _, _⟩) rfl _ w1 (step_bl3 (x := .tmp 5) rfl rfl X1.out) ?_)
 refine hrt.mono ?_; clear hrt; rintro e w2 ⟨rfl, hb⟩
 have A2 := qH (A1.out.later DK hb)
 have X2 := qH (X1.out.later hb)
 have B2 := qH (B1.out.trans (hb.mono B1.out.size))
 have S2 := qH (S1.out.below hb (Nat.le_refl _))
 have C2 := qH X2.out.c2
 clear hb A1 X1 B1 S1
 go_wp2_with fail
 refine wp_region_held_drew (S := fun w' => Fr (fun _ => False) w2 w') (by kernel_rfl) (Fr.drew (Fr.refl _ _)) (fun hHeld => ?_)
 clear hHeld
 have hHeld : Fr (fun _ => False) w2 w2.drew := Fr.drew (Fr.refl _ _)
 have hz_0 : w2.heap.size ≤ w2.drew.heap.size := Nat.le_refl _
 obtain ⟨v_1, hw⟩ : ∃ v_1, v_1 = w2.drew := ⟨_, rfl⟩
 rw [← hw] at hHeld hz_0  ⊢
 clear hw
 refine tL 0 (some 24) (v := (.agg #[.slice AV n c2, .int .u64 (g : Int), .int .i64 (q : Int)])) rfl ?yg0_2 hHeld ?rg0_2
 case yg0_2 =>
  intro wq hSw
  exact step_bl3 (x := .tmp 5) rfl rfl (hSw.row_some X2.out (fun h => h))
 try simp only [Act.put,sA,sB,sC]
 refine tA 2 (some 26) rfl hHeld ?_
 refine tL 3 (some 27) (v := ?vg3_4) rfl ?yg3_4 hHeld ?rg3_4
 case yg3_4 =>
  intro wq hSw
  (try dsimp only at hSw)
  have hq := hSw.cell_some C2.out (fun h => h)
  go_simp <;> with_reducible rfl
 try simp only [Act.put,sA,sB,sC]
 refine wpAnyH_ready (rs := [1, 4]) (by kernel_rfl) (by simp) ?_
 refine AllReadyH.cons (o := ⟨some 25, _, _, _, _, _⟩) rfl (fun K hK => ?_) (AllReadyH.cons (o := ⟨some 28, _, _, _, _, _⟩) rfl (fun K hK => ?_) (AllReadyH.nil))
 ·go_simp
  refine (refs15 AV n c2 (intsOf ps) (g : Int) (q : Int) v_1 (S2.out.fr hHeld (fun _ _ _ _ h => h)) (by rw [intsOf_length, HPL.out]) (by omega)).mono ?_; rintro e v_5 ⟨rb, rfl, hrr, hbN, hrb⟩
  have hfN : Fr (fun _ => False) v_1 v_5 := Fr.of_below hbN
  have QR := qH hrr
  have HRW := qH (show w2.heap.size ≤ rb from by have := hHeld.size; omega)
  clear hrr hrb hbN
  go_wp2_with fail
  have hHeld := hHeld.trans hfN
  have hz_6 := hfN.size
  refine hK.out _ _ hHeld fun _ => ?_
  clear hK K hfN
  try simp only [Act.put,sA,sB,sC]
  refine tA 5 (some 8) rfl hHeld ?_
  refine rW 4 (some 28) rfl fun K hK => ?_
  go_simp
  rw [HMK.out]
  go_simp
  have hbN : Below v_5.heap.size v_5 (v_5.alloc (.cells (madeCells #[.int .u8 0] q) 5)) := (Below.refl _ _).alloc (Nat.le_refl _) _
  have hqv := Rw.empty15 v_5 q hZ
  obtain ⟨v_8, hw⟩ : ∃ x, x = v_5.alloc (.cells (madeCells #[.int .u8 0] q) 5) := ⟨_, rfl⟩
  rw [← hw] at hbN hqv ⊢
  clear hw
  obtain ⟨vb, hvb⟩ : ∃ x, x = v_5.heap.size := ⟨_, rfl⟩
  rw [← hvb] at hqv ⊢
  have hfN : Fr (fun _ => False) v_5 v_8 := Fr.of_below hbN
  have QV := qH hqv
  have HVW := qH (show w2.heap.size ≤ vb from by have := hHeld.size; omega)
  have HVR := qH (show vb ≠ rb from by have := QR.out.lt; omega)
  have QR := qH (QR.out.fr hfN (fun h => h))
  clear hqv hbN hvb
  have hHeld := hHeld.trans hfN
  have hz_9 := hfN.size
  refine hK.out _ _ hHeld fun _ => ?_
  clear hK K hfN
  try simp only [Act.put,sA,sB,sC]
  refine tA 6 (some 9) rfl hHeld ?_
  refine tA 7 (some 10) rfl hHeld ?_
  refine tD ?_
  have hbl := hHeld.belowAll (fun _ h => h.elim)
  have A3 := qH (A2.out.later DK hbl)
  have X3 := qH (X2.out.later hbl)
  have B3 := qH (B2.out.trans (hbl.mono B2.out.size))
  have HBR := qH (show vb ≠ B ∧ rb ≠ B ∧ w.heap.size ≤ vb from by have := block_lt X2.out; have := HVW.out; have := HRW.out; have := B2.out.size; omega)
  clear hbl hHeld A2 X2 B2 S2 C2
  obtain ⟨w3, hw3⟩ : ∃ x, x = v_8 := ⟨_, rfl⟩
  rw [← hw3] at A3 X3 B3 QV QR ⊢
  clear hw3
  have c2' := X3.out.c2
  have hct := count15 (Rm.of A3.out.c) (q : Int) (by omega) (by omega)
  rw [HCT.out] at hct
  go_wp2_with fail
  refine hct.mono ?_; clear hct; rintro e w6 ⟨rfl, hw6⟩
  obtain rfl : w3 = w6 := hw6.symm
  clear c2'
  go_wp2_with fail
  go_loopw [9, 10, 33] (fun vv lv iv wr => ∃ (i : Nat) (A' : Option Addr) (c' : Nat), i ≤ n ∧ vv = .slice A' (b.take (i * (44 * k))).length c' ∧ lv = .bool false ∧ iv = .int .i64 (i : Int) ∧ Rn wr A' 5 1 (b.take (i * (44 * k))).length c' (cells (b.take (i * (44 * k)))) ∧ (∀ x, Bk A' x → w.heap.size ≤ x ∧ x ≠ rb ∧ x ≠ B) ∧ Ac13 Rep wr S A C k m F T N xs ∧ Rw wr rb 35 3 n n ((refsL (intsOf ps) (g : Int)).flatMap r3c) ∧ Bl3 wr B AV n c2 (g : Int) (q : Int) ∧ Below w.heap.size w wr) (fun vv lv iv _ => n - (intOf iv).toNat)
  case atStart =>
   refine ⟨0, some ⟨vb, 0, none⟩, q, by omega, by rw [Nat.zero_mul, List.take_zero]; rfl, rfl, rfl, ?_, fun x hx => ?_, A3.out, QR.out, X3.out, B3.out⟩
   ·rw [Nat.zero_mul, List.take_zero]
    exact .inr ⟨vb, rfl, QV.out⟩
   ·obtain ⟨o, hx⟩ := hx
    injection hx with hx
    injection hx with hx _
    subst hx
    exact ⟨HBR.out.2.2, HVR.out, HBR.out.1⟩
  case round =>
   obtain ⟨i, A', c', hi, rfl, rfl, rfl, hrn, hnw, hac, hqr, hbx, hbl⟩ := hrel
   have RN := qH hrn
   have NW := qH hnw
   have AC := qH hac
   have QQ := qH hqr
   have XB := qH hbx
   have BL := qH hbl
   clear hrn hnw hac hqr hbx hbl
   by_cases hlt : i < n
   ·have hii : (i : Int) < (n : Int) := by omega
    have i1 : (0 : Int) ≤ (i : Int) := by omega
    have hip : i < ps.length := by rw [HPL.out]; exact hlt
    have hat := refsL_at (zs := intsOf ps) (g := (g : Int)) (i := i) (by rw [intsOf_length]; exact hip)
    have hri := HV.out.ref (b := b) hip
    rw [intsOf_at hip, u64_gen (by have := hri.g; omega)] at hat
    have hgt := SV.get AC.out hri (HV.out.at_ i hip) (HVAL.out i hip) HGD.out
    have HAT := qH hat
    have hql : i * (44 * k) ≤ q := Nat.le_of_lt (countN_last (by omega) (by rw [HN.out]; exact hlt))
    have hq12 : i * (44 * k) ≤ min ((i + 1) * (44 * k)) q := Nat.le_min.2 ⟨Nat.mul_le_mul_right _ (by omega), hql⟩
    have hq22 : min ((i + 1) * (44 * k)) q ≤ q := Nat.min_le_right _ _
    have hmin := piece_min (R := 44 * k) (i := i) (b := b) (by rw [HQ.out]; exact hql)
    have htp := take_piece (R := 44 * k) (i := i) (b := b)
    have htl : (b.take (i * (44 * k))).length = i * (44 * k) := by rw [List.length_take, HQ.out]; omega
    rw [HQ.out] at hmin
    rw [htl] at RN ⊢
    have HTL := qH htl
    clear hat hri hip
    obtain ⟨pi, hpi⟩ : ∃ pi, pi = ps.getD i 0 := ⟨_, rfl⟩
    rw [← hpi] at HAT hgt
    obtain ⟨gi, hgi⟩ : ∃ gi, gi = g + i := ⟨_, rfl⟩
    rw [← hgi] at HAT hgt
    have hpt : ∀ W, Cod W C k m F T → _ := fun W hc => part15 (Rm.of hc) q i hZ (by omega)
    obtain ⟨pc, hpc⟩ : ∃ pc, pc = pieceL (44 * k) b i := ⟨_, rfl⟩
    rw [← hpc] at hgt hmin htp
    obtain ⟨q1, hq1⟩ : ∃ q1, q1 = i * (44 * k) := ⟨_, rfl⟩
    obtain ⟨q2, hq2⟩ : ∃ q2, q2 = min ((i + 1) * (44 * k)) q := ⟨_, rfl⟩
    rw [← hq1] at hpt hql hq12 hmin RN htp ⊢
    rw [← hq2] at hpt hq12 hq22 hmin
    have HPT := qH hpt
    have HTP := qH htp
    have HMIN := qH hmin
    have HQ1 := qH hq1
    clear hpi hgi hpc hq1 hq2 htl hpt htp hmin hql
    go_wp2_with (refine at_dst11 (d := 42) ?_; refine wpList_step11 (o := ⟨some 42, _, _, _, _, _⟩) rfl (.agg #[.int .u8 3, .int .i64 (pi : Int), .int .u64 (gi : Int)]) wr (step_ref15 (x := .tmp 41) rfl rfl (QQ.out.refAt HAT.out)) ?_)
    refine hgt.mono ?_; clear hgt; rintro e w7 ⟨A5, n5, c5, rfl, hs5, hb5, hlo5⟩
    have hn5 := hs5.len
    rw [cells_length, Nat.mul_one, HMIN.out] at hn5
    obtain rfl : n5 = q2 - q1 := hn5.symm
    have SX := qH hs5
    have AC7 := qH (AC.out.later DK hb5)
    have RN7 := qH (RN.out.later hb5)
    have QQ7 := qH (QQ.out.later hb5)
    have XB7 := qH (XB.out.later hb5)
    have BL7 := qH (BL.out.trans (hb5.mono BL.out.size))
    have c2' := XB7.out.c2
    have hpt := HPT.out w7 AC7.out.c
    clear hs5 hb5 hlo5 hn5 AC RN QQ XB BL HPT
    go_wp2_with fail
    refine hpt.mono ?_; clear hpt; rintro e w8 ⟨rfl, hw8⟩
    obtain rfl : w7 = w8 := hw8.symm
    clear c2'
    obtain ⟨n5, hn5⟩ : ∃ x, x = q2 - q1 := ⟨_, rfl⟩
    rw [← hn5] at SX HMIN ⊢
    have hsub : (q2 : Int) - (q1 : Int) = (n5 : Int) := by omega
    have hlim : q1 + n5 ≤ 400 := by omega
    clear hn5
    go_wp2_with (at_builtin; refine wpList_append_rn (o := ⟨some 71, _, _, _, _, _⟩) rfl (.tmp 69) (.tmp 70) 49 49 rfl i0 (.int .u8 0) 1 Tryz.underlying49 Hi0.out Hz0.out Hz1.out Hz2.out rfl (by decide) rfl RN7.out _ n5 (cells pc) rfl (SX.out.src Tryz.underlying49 (by decide) (cells_one _)) (by unfold maxLen; omega) (by omega) ?_)
    intro A7 c7 w9 hrn hfb hor
    have AC9 := qH (AC7.out.box DK hfb (fun x hx => H.out.fresh (NW.out x hx).1))
    have QQ9 := qH (QQ7.out.fr hfb (fun x => (NW.out _ x).2.1 rfl))
    have XB9 := qH (show Bl3 w9 B AV n c2 (g : Int) (q : Int) from hfb.row_some XB7.out (fun x => (NW.out _ x).2.2 rfl))
    have BL9 := qH (BL7.out.trans (hfb.below BL7.out.size (fun x hx => (NW.out x hx).1)))
    have RN9 := qH hrn
    have NW9 := qH (show ∀ x, Bk A7 x → w.heap.size ≤ x ∧ x ≠ rb ∧ x ≠ B from fun x hx => by
     rcases hor with e | e
     ·exact NW.out x (e ▸ hx)
     ·rw [e] at hx
      obtain ⟨o, hx⟩ := hx
      injection hx with hx
      injection hx with hx _
      have h1 := QQ7.out.lt
      have h2 := block_lt XB7.out
      have h3 := BL7.out.size
      omega)
    have HL9 := qH (show (b.take ((i + 1) * (44 * k))).length = q1 + n5 from by rw [← HTP.out, List.length_append, HMIN.out, HQ1.out, HTL.out])
    clear hrn hfb hor
    go_wp2_with fail
    go_roundw
    case rel =>
     refine ⟨i + 1, A7, c7, by omega, by rw [HL9.out], rfl, by go_num, ?_, NW9.out, AC9.out, QQ9.out, XB9.out, BL9.out⟩
     rw [HL9.out, ← HTP.out, cells_append]
     exact RN9.out
    case measure => simp [intOf]; omega
   ·obtain rfl : i = n := by omega
    have hall : b.take (i * (44 * k)) = b := List.take_of_length_le (by rw [HQ.out, ← HN.out]; exact countN_bound (by omega))
    rw [hall, HQ.out] at RN ⊢
    clear hall
    go_wp2_with fail
    go_ret2
    exact ⟨A', c', rfl, RN.out.sl, BL.out, fun bb o _ hA => (NW.out bb ⟨o, hA⟩).1⟩
 ·go_simp
  rw [HMK.out]
  go_simp
  have hbN : Below v_1.heap.size v_1 (v_1.alloc (.cells (madeCells #[.int .u8 0] q) 5)) := (Below.refl _ _).alloc (Nat.le_refl _) _
  have hqv := Rw.empty15 v_1 q hZ
  obtain ⟨v_12, hw⟩ : ∃ x, x = v_1.alloc (.cells (madeCells #[.int .u8 0] q) 5) := ⟨_, rfl⟩
  rw [← hw] at hbN hqv ⊢
  clear hw
  obtain ⟨vb, hvb⟩ : ∃ x, x = v_1.heap.size := ⟨_, rfl⟩
  rw [← hvb] at hqv ⊢
  have hfN : Fr (fun _ => False) v_1 v_12 := Fr.of_below hbN
  have QV := qH hqv
  have HVW := qH (show w2.heap.size ≤ vb from by have := hHeld.size; omega)
  clear hqv hbN hvb
  have hHeld := hHeld.trans hfN
  have hz_13 := hfN.size
  refine hK.out _ _ hHeld fun _ => ?_
  clear hK K hfN
  try simp only [Act.put,sA,sB,sC]
  refine rW 1 (some 25) rfl fun K hK => ?_
  go_simp
  refine (refs15 AV n c2 (intsOf ps) (g : Int) (q : Int) v_12 (S2.out.fr hHeld (fun _ _ _ _ h => h)) (by rw [intsOf_length, HPL.out]) (by omega)).mono ?_; rintro e v_14 ⟨rb, rfl, hrr, hbN, hrb⟩
  have hfN : Fr (fun _ => False) v_12 v_14 := Fr.of_below hbN
  have QR := qH hrr
  have HRW := qH (show w2.heap.size ≤ rb from by have := hHeld.size; omega)
  have HVR := qH (show vb ≠ rb from by have := QV.out.lt; omega)
  have QV := qH (QV.out.fr hfN (fun h => h))
  clear hrr hrb hbN
  go_wp2_with fail
  have hHeld := hHeld.trans hfN
  have hz_15 := hfN.size
  refine hK.out _ _ hHeld fun _ => ?_
  clear hK K hfN
  try simp only [Act.put,sA,sB,sC]
  refine tA 5 (some 8) rfl hHeld ?_
  refine tA 6 (some 9) rfl hHeld ?_
  refine tA 7 (some 10) rfl hHeld ?_
  refine tD ?_
  have hbl := hHeld.belowAll (fun _ h => h.elim)
  have A3 := qH (A2.out.later DK hbl)
  have X3 := qH (X2.out.later hbl)
  have B3 := qH (B2.out.trans (hbl.mono B2.out.size))
  have HBR := qH (show vb ≠ B ∧ rb ≠ B ∧ w.heap.size ≤ vb from by have := block_lt X2.out; have := HVW.out; have := HRW.out; have := B2.out.size; omega)
  clear hbl hHeld A2 X2 B2 S2 C2
  obtain ⟨w3, hw3⟩ : ∃ x, x = v_14 := ⟨_, rfl⟩
  rw [← hw3] at A3 X3 B3 QV QR ⊢
  clear hw3
  have c2' := X3.out.c2
  have hct := count15 (Rm.of A3.out.c) (q : Int) (by omega) (by omega)
  rw [HCT.out] at hct
  go_wp2_with fail
  refine hct.mono ?_; clear hct; rintro e w6 ⟨rfl, hw6⟩
  obtain rfl : w3 = w6 := hw6.symm
  clear c2'
  go_wp2_with fail
  go_loopw [9, 10, 33] (fun vv lv iv wr => ∃ (i : Nat) (A' : Option Addr) (c' : Nat), i ≤ n ∧ vv = .slice A' (b.take (i * (44 * k))).length c' ∧ lv = .bool false ∧ iv = .int .i64 (i : Int) ∧ Rn wr A' 5 1 (b.take (i * (44 * k))).length c' (cells (b.take (i * (44 * k)))) ∧ (∀ x, Bk A' x → w.heap.size ≤ x ∧ x ≠ rb ∧ x ≠ B) ∧ Ac13 Rep wr S A C k m F T N xs ∧ Rw wr rb 35 3 n n ((refsL (intsOf ps) (g : Int)).flatMap r3c) ∧ Bl3 wr B AV n c2 (g : Int) (q : Int) ∧ Below w.heap.size w wr) (fun vv lv iv _ => n - (intOf iv).toNat)
  case atStart =>
   refine ⟨0, some ⟨vb, 0, none⟩, q, by omega, by rw [Nat.zero_mul, List.take_zero]; rfl, rfl, rfl, ?_, fun x hx => ?_, A3.out, QR.out, X3.out, B3.out⟩
   ·rw [Nat.zero_mul, List.take_zero]
    exact .inr ⟨vb, rfl, QV.out⟩
   ·obtain ⟨o, hx⟩ := hx
    injection hx with hx
    injection hx with hx _
    subst hx
    exact ⟨HBR.out.2.2, HVR.out, HBR.out.1⟩
  case round =>
   obtain ⟨i, A', c', hi, rfl, rfl, rfl, hrn, hnw, hac, hqr, hbx, hbl⟩ := hrel
   have RN := qH hrn
   have NW := qH hnw
   have AC := qH hac
   have QQ := qH hqr
   have XB := qH hbx
   have BL := qH hbl
   clear hrn hnw hac hqr hbx hbl
   by_cases hlt : i < n
   ·have hii : (i : Int) < (n : Int) := by omega
    have i1 : (0 : Int) ≤ (i : Int) := by omega
    have hip : i < ps.length := by rw [HPL.out]; exact hlt
    have hat := refsL_at (zs := intsOf ps) (g := (g : Int)) (i := i) (by rw [intsOf_length]; exact hip)
    have hri := HV.out.ref (b := b) hip
    rw [intsOf_at hip, u64_gen (by have := hri.g; omega)] at hat
    have hgt := SV.get AC.out hri (HV.out.at_ i hip) (HVAL.out i hip) HGD.out
    have HAT := qH hat
    have hql : i * (44 * k) ≤ q := Nat.le_of_lt (countN_last (by omega) (by rw [HN.out]; exact hlt))
    have hq12 : i * (44 * k) ≤ min ((i + 1) * (44 * k)) q := Nat.le_min.2 ⟨Nat.mul_le_mul_right _ (by omega), hql⟩
    have hq22 : min ((i + 1) * (44 * k)) q ≤ q := Nat.min_le_right _ _
    have hmin := piece_min (R := 44 * k) (i := i) (b := b) (by rw [HQ.out]; exact hql)
    have htp := take_piece (R := 44 * k) (i := i) (b := b)
    have htl : (b.take (i * (44 * k))).length = i * (44 * k) := by rw [List.length_take, HQ.out]; omega
    rw [HQ.out] at hmin
    rw [htl] at RN ⊢
    have HTL := qH htl
    clear hat hri hip
    obtain ⟨pi, hpi⟩ : ∃ pi, pi = ps.getD i 0 := ⟨_, rfl⟩
    rw [← hpi] at HAT hgt
    obtain ⟨gi, hgi⟩ : ∃ gi, gi = g + i := ⟨_, rfl⟩
    rw [← hgi] at HAT hgt
    have hpt : ∀ W, Cod W C k m F T → _ := fun W hc => part15 (Rm.of hc) q i hZ (by omega)
    obtain ⟨pc, hpc⟩ : ∃ pc, pc = pieceL (44 * k) b i := ⟨_, rfl⟩
    rw [← hpc] at hgt hmin htp
    obtain ⟨q1, hq1⟩ : ∃ q1, q1 = i * (44 * k) := ⟨_, rfl⟩
    obtain ⟨q2, hq2⟩ : ∃ q2, q2 = min ((i + 1) * (44 * k)) q := ⟨_, rfl⟩
    rw [← hq1] at hpt hql hq12 hmin RN htp ⊢
    rw [← hq2] at hpt hq12 hq22 hmin
    have HPT := qH hpt
    have HTP := qH htp
    have HMIN := qH hmin
    have HQ1 := qH hq1
    clear hpi hgi hpc hq1 hq2 htl hpt htp hmin hql
    go_wp2_with (refine at_dst11 (d := 42) ?_; refine wpList_step11 (o := ⟨some 42, _, _, _, _, _⟩) rfl (.agg #[.int .u8 3, .int .i64 (pi : Int), .int .u64 (gi : Int)]) wr (step_ref15 (x := .tmp 41) rfl rfl (QQ.out.refAt HAT.out)) ?_)
    refine hgt.mono ?_; clear hgt; rintro e w7 ⟨A5, n5, c5, rfl, hs5, hb5, hlo5⟩
    have hn5 := hs5.len
    rw [cells_length, Nat.mul_one, HMIN.out] at hn5
    obtain rfl : n5 = q2 - q1 := hn5.symm
    have SX := qH hs5
    have AC7 := qH (AC.out.later DK hb5)
    have RN7 := qH (RN.out.later hb5)
    have QQ7 := qH (QQ.out.later hb5)
    have XB7 := qH (XB.out.later hb5)
    have BL7 := qH (BL.out.trans (hb5.mono BL.out.size))
    have c2' := XB7.out.c2
    have hpt := HPT.out w7 AC7.out.c
    clear hs5 hb5 hlo5 hn5 AC RN QQ XB BL HPT
    go_wp2_with fail
    refine hpt.mono ?_; clear hpt; rintro e w8 ⟨rfl, hw8⟩
    obtain rfl : w7 = w8 := hw8.symm
    clear c2'
    obtain ⟨n5, hn5⟩ : ∃ x, x = q2 - q1 := ⟨_, rfl⟩
    rw [← hn5] at SX HMIN ⊢
    have hsub : (q2 : Int) - (q1 : Int) = (n5 : Int) := by omega
    have hlim : q1 + n5 ≤ 400 := by omega
    clear hn5
    go_wp2_with (at_builtin; refine wpList_append_rn (o := ⟨some 71, _, _, _, _, _⟩) rfl (.tmp 69) (.tmp 70) 49 49 rfl i0 (.int .u8 0) 1 Tryz.underlying49 Hi0.out Hz0.out Hz1.out Hz2.out rfl (by decide) rfl RN7.out _ n5 (cells pc) rfl (SX.out.src Tryz.underlying49 (by decide) (cells_one _)) (by unfold maxLen; omega) (by omega) ?_)
    intro A7 c7 w9 hrn hfb hor
    have AC9 := qH (AC7.out.box DK hfb (fun x hx => H.out.fresh (NW.out x hx).1))
    have QQ9 := qH (QQ7.out.fr hfb (fun x => (NW.out _ x).2.1 rfl))
    have XB9 := qH (show Bl3 w9 B AV n c2 (g : Int) (q : Int) from hfb.row_some XB7.out (fun x => (NW.out _ x).2.2 rfl))
    have BL9 := qH (BL7.out.trans (hfb.below BL7.out.size (fun x hx => (NW.out x hx).1)))
    have RN9 := qH hrn
    have NW9 := qH (show ∀ x, Bk A7 x → w.heap.size ≤ x ∧ x ≠ rb ∧ x ≠ B from fun x hx => by
     rcases hor with e | e
     ·exact NW.out x (e ▸ hx)
     ·rw [e] at hx
      obtain ⟨o, hx⟩ := hx
      injection hx with hx
      injection hx with hx _
      have h1 := QQ7.out.lt
      have h2 := block_lt XB7.out
      have h3 := BL7.out.size
      omega)
    have HL9 := qH (show (b.take ((i + 1) * (44 * k))).length = q1 + n5 from by rw [← HTP.out, List.length_append, HMIN.out, HQ1.out, HTL.out])
    clear hrn hfb hor
    go_wp2_with fail
    go_roundw
    case rel =>
     refine ⟨i + 1, A7, c7, by omega, by rw [HL9.out], rfl, by go_num, ?_, NW9.out, AC9.out, QQ9.out, XB9.out, BL9.out⟩
     rw [HL9.out, ← HTP.out, cells_append]
     exact RN9.out
    case measure => simp [intOf]; omega
   ·obtain rfl : i = n := by omega
    have hall : b.take (i * (44 * k)) = b := List.take_of_length_le (by rw [HQ.out, ← HN.out]; exact countN_bound (by omega))
    rw [hall, HQ.out] at RN ⊢
    clear hall
    go_wp2_with fail
    go_ret2
    exact ⟨A', c', rfl, RN.out.sl, BL.out, fun bb o _ hA => (NW.out bb ⟨o, hA⟩).1⟩
end
end Go.Proofs.YthmneinejfbheaaGreatDoor
