/-
  The contract of package scroll's write: a text's stripes are put at places that rise. Conditions: bounds; drives as 'DrvK' says, stripes as 'StrV' says. (Written by gen_eic.py.)
-/
import Derived.Test.YtokbhgbajdomnaaGreatDoorEib
set_option linter.unusedVariables false
set_option maxRecDepth 20000
set_option maxHeartbeats 3200000
namespace Go.Proofs.YtokbhgbajdomnaaGreatDoor
open Go.RowKit Go.Proofs
theorem Sl.sub16 {w : World} {n c : Nat} {A : Option Addr} {l : List UInt8} (h : Sl w 1 A n c (cells l)) (lo hi : Nat) (h1 : lo ≤ hi) (h2 : hi ≤ n) : Sl w 1 (if c = lo then A else A.map fun x => x.add lo) (hi - lo) (c - lo) (cells ((l.drop lo).take (hi - lo))) := by
 have hc := h.cap
 have ht := h.top
 split
 ·obtain rfl : hi = lo := by omega
  rw [Nat.sub_self, List.take_zero]
  exact ⟨rfl, by omega, by omega, fun j u hu => by simp [cells] at hu⟩
 ·exact h.sub1 lo hi (c - lo) h1 h2 (by omega) (by omega)
theorem piece_cut16 {R i : Nat} {b : List UInt8} : (b.drop (i * R)).take (min ((i + 1) * R) b.length - i * R) = pieceL R b i := by
 have e : (i + 1) * R = i * R + R := by rw [Nat.add_mul, Nat.one_mul]
 rw [e, pieceL]
 rcases Nat.le_total (i * R + R) b.length with h | h
 ·rw [Nat.min_eq_left h, Nat.add_sub_cancel_left]
 ·rw [Nat.min_eq_right h, List.take_of_length_le (by rw [List.length_drop]; exact Nat.le_refl _), List.take_of_length_le (by rw [List.length_drop]; omega)]
theorem piece_min16 {R i : Nat} {b : List UInt8} (h : i * R ≤ b.length) : (pieceL R b i).length = min ((i + 1) * R) b.length - i * R := by
 have e : (i + 1) * R = i * R + R := by rw [Nat.add_mul, Nat.one_mul]
 rw [piece_len, e]
 omega
theorem ncells_icells16 (l : List Nat) : ncells l = icells (intsOf l) := by rw [intsOf, ← ncells_icells]
theorem icells_at16 {l : List Nat} {i : Nat} (h : i < l.length) : (icells (intsOf l))[i]? = some (.int .i64 ((l.getD i 0 : Nat) : Int)) := by
 rw [← ncells_icells16, ncells, List.getElem?_map, List.getElem?_eq_getElem h, List.getD_eq_getElem?_getD, List.getElem?_eq_getElem h]
 rfl
theorem step_addu16 {ρ : Operand → Value} {o : Oper} {x y : Operand} {w : World} {a b c : Int} {t u : TypeId} (ho : o.op = .binOp .add t x y u) (hx : ρ x = .int .u64 a) (hy : ρ y = .int .u64 b) (hc : IntKind.u64.wrap (a + b) = c) : (execOp ρ o).run Tryz.prog w = .ok (.value (.int .u64 c)) w := by
 subst hc
 unfold execOp
 simp [ho, hx, hy, go_sem]
theorem run_cvu16 (i : Nat) (h : i < 18446744073709551616) (w : World) : (convert 3 36 (.int .i64 (i : Int))).run Tryz.prog w = .ok (.int .u64 (i : Int)) w := by
 have e : IntKind.u64.wrap (i : Int) = (i : Int) := by rw [IntKind.wrap_u64]; omega
 simp [convert, go_sem, e]
theorem step_cvu16 {ρ : Operand → Value} {o : Oper} {x : Operand} {w : World} {i : Nat} (ho : o.op = .convert 3 36 x) (hx : ρ x = .int .i64 (i : Int)) (h : i < 18446744073709551616) : (execOp ρ o).run Tryz.prog w = .ok (.value (.int .u64 (i : Int))) w := by
 unfold execOp
 simp only [ho, hx, Sem.run_bind, Sem.run_pure, Result.andThen_ok, run_cvu16 i h w]
theorem wp_append_b16 {o : Oper} {a : Act} {K : Act → World → Prop} {Q : Exit → Act → World → Prop} {w : World} {B n c : Nat} {A : Option Addr} {xs : List Value} (s x : Operand)
  (ho : o.op = .call { callee := .builtin .append, args := #[s, x], argTypes := #[40, 40] })
  (hv : a.eval s = .slice A n c) (h : Own w B 5 1 A n c xs) (hB : B ≤ w.heap.size)
  (A2 : Option Addr) (m c2 : Nat) (ys : List UInt8) (hx : a.eval x = .slice A2 m c2) (hs : Sl w 1 A2 m c2 (cells ys)) (q : Nat) (hq : q = n + m) (h47 : q ≤ 140737488355328)
  (hk : ∀ A' c' w', Own w' B 5 1 A' q c' (xs ++ cells ys) → Below B w w' → K (a.put o.dst (.slice A' q c')) w') : o.wp Tryz.prog a w K Q := by
 subst hq
 obtain ⟨i0, hi, hz0, hz1, hz2⟩ := info_parts info_u8
 exact wp_append_any s x _ _ ho i0 (.int .u8 0) 1 Tryz.underlying40 hi hz0 hz1 hz2 rfl (by decide) hv h hB m (cells ys) _ hx (hs.src Tryz.underlying40 (by decide) (cells_one ys)) (by unfold maxLen; omega) (by omega) hk
section
variable {Rep : World → (Nat → Prop) → Nat → Dv → Prop} {Good : Nat → Nat → (Nat → Bool) → Prop} {w0 w w' : World} {S U : Nat → Prop} {A C k m F T N P : Nat} {xs : List Dv} {p : Ps}
def RetWrite16 (Rep : World → (Nat → Prop) → Nat → Dv → Prop) (w0 : World) (S : Nat → Prop) (A C k m F T N : Nat) (xs : List Dv) (U : Nat → Prop) (P : Nat) (p : Ps) (ps : List Nat) (g : Nat) (b : List UInt8) (n : Nat) (w : World) (e : Ending) (w' : World) : Prop :=
 ∃ S', e = .returned (.bool true) ∧ Lc15 Rep w0 w' S' A C k m F T N (putT k (k + m) 4 ps g (leafL k ps g b) xs n) U P p ∧ Nxt S S' w w'
theorem write16_yes (DK : DrvK Rep) (SV : StrV Rep Good) (h : Lc15 Rep w0 w S A C k m F T N xs U P p) (r : Nat) (hr : 44 * k = r + 10) (b : List UInt8) (A2 : Option Addr) (q c2 n c c3 g : Nat) (ps : List Nat) (A3 : Option Addr) (hq : b.length = q) (hZ : q ≤ 1000000) (hs : Sl w 1 A2 q c2 (cells b)) (hA : ∀ bb o, 0 < q → A2 = some ⟨bb, o, none⟩ → ¬ S bb)
  (hn : countS r q = n) (hn4 : n ≤ 400) (hpl : ps.length = n) (hp : Sl w 1 A3 n c3 (icells (intsOf ps))) (hA3 : ∀ bb o, 0 < n → A3 = some ⟨bb, o, none⟩ → ¬ S bb) (hv : VOk k N ps g) (hB : Bare xs k (k + m) N (ps.getD (n - 1) 0)) (hw : Wl c xs) (hc : c + n ≤ 1000) :
  Calls Tryz.prog 47 #[.pointer (some ⟨A, 0, none⟩), .pointer (some ⟨C, 0, none⟩), .slice A3 n c3, .int .u64 (g : Int), .slice A2 q c2] w (RetWrite16 Rep w0 S A C k m F T N xs U P p ps g b n w) := by
 have hk := h.lc.ac.c.k1
 have hk255 := h.lc.ac.c.n255
 have hn1 : 0 < n := by rw [← hn]; exact countS_pos
 have hgle := hv.gle
 rw [hpl] at hgle
 obtain ⟨nl, hnl⟩ : ∃ nl, nl + 1 = n := ⟨n - 1, by omega⟩
 rw [show n - 1 = nl by omega] at hB
 have H := qH h
 have HS := qH hs
 have HA := qH hA
 have HP := qH hp
 have HA3 := qH hA3
 have HN := qH hn
 have HR := qH hr
 have HV := qH hv
 have HPL := qH hpl
 have HW := qH hw
 have HQ := qH hq
 have HT := qH (show TOk k 4 (leafL k ps g b) from leaf_ok hk)
 have HB := qH hB
 have HR8 := qH (show ∀ i, i < n → RefOk 4 (ps.getD i 0) (g + i) (leafL k ps g b i).length (44 * k) from fun i hi => hv.rT (leaf_ok hk) (by omega))
 have HAT := qH (show ∀ i, i < n → ps.getD i 0 < N from fun i hi => hv.at_ i (by omega))
 have HCELL := qH (show ∀ W, Sl W 1 A3 n c3 (icells (intsOf ps)) → ∀ i, i < n → ∃ b1 o1, A3 = some ⟨b1, o1, none⟩ ∧ W.cell? ⟨b1, o1 + i, none⟩ = some (.int .i64 (ps.getD i 0 : Nat)) from fun W hW i hi => by
  obtain ⟨b1, o1, hA, hc⟩ := hW.at_ hi
  exact ⟨b1, o1, hA, hc i _ (icells_at16 (by omega))⟩)
 obtain ⟨b1, o1, e3, hcl⟩ := HCELL.out w hp nl (by omega)
 have HE3 := qH e3
 rw [e3] at HP HA3 HCELL ⊢
 obtain ⟨pl, hpe⟩ : ∃ pl, pl = ps.getD nl 0 := ⟨_, rfl⟩
 rw [← hpe] at hcl HB
 obtain ⟨gl, hge⟩ : ∃ gl, gl = g + nl := ⟨_, rfl⟩
 have hrl := HR8.out nl (by omega)
 rw [← hpe, ← hge] at hrl
 have HRL := qH hrl
 have HPN := qH (show pl < N from by rw [hpe]; exact HAT.out nl (by omega))
 rw [show nl = n - 1 by omega] at hcl
 have hw2 : IntKind.u64.wrap ((g : Int) + (nl : Int)) = (gl : Int) := by rw [IntKind.wrap_u64]; omega
 have hcv : ∀ W, (convert 3 36 (.int .i64 ((n : Int) - 1))).run Tryz.prog W = .ok (.int .u64 (nl : Int)) W := fun W => by rw [show (n : Int) - 1 = (nl : Int) by omega]; exact run_cvu16 nl (by omega) W
 have hi0 : (0 : Int) ≤ (n : Int) - 1 := by omega
 unfold RetWrite16
 clear h hs hA hn hr hv hpl hw hq hB hp hA3 e3 hrl hpe hge hgle
 go_enter Tryz.func47, Tryz.ntmps47
 go_wp2_with fail
 refine (ref16_any (pl : Int) (gl : Int) w).mono ?_; rintro e w1 ⟨rfl, hb1⟩
 have L1 := qH (H.out.later DK hb1)
 have N1 := qH (show Nxt S S w w1 from (Nxt.refl S w).later hb1)
 clear hb1
 go_wp2_with fail
 refine (could16 DK SV L1.out.lc.ac HRL.out HPN.out (HB.out 4 gl (leafL k ps g b nl))).mono ?_; rintro e w2 ⟨rfl, hb2⟩
 have L2 := qH (L1.out.later DK hb2)
 have N2 := qH (N1.out.later hb2)
 clear hb2 L1 N1 hw2 hcv hcl hi0
 go_wp2_with fail
 have NS := qH (show ∀ x, w.heap.size ≤ x → ¬ S x from fun x hx hs => by have := H.out.lc.ac.a.old hs; omega)
 go_loopw [37] (fun iv wr => ∃ (i : Nat) (S' : Nat → Prop), i ≤ n ∧ iv = .int .i64 (i : Int) ∧ Lc15 Rep w0 wr S' A C k m F T N (putT k (k + m) 4 ps g (leafL k ps g b) xs i) U P p ∧ Nxt S S' w wr) (fun iv _ => n - (intOf iv).toNat)
 case atStart => exact ⟨0, S, by omega, rfl, L2.out, N2.out⟩
 case round =>
  obtain ⟨i, S', hi, rfl, hL, hX⟩ := hrel
  have LL := qH hL
  have XX := qH hX
  clear hL hX
  by_cases hlt : i < n
  ·have hii : (i : Int) < (n : Int) := by omega
   have hi0 : (0 : Int) ≤ (i : Int) := by omega
   have Pr := qH (HP.out.fr XX.out.1 (fun bb o h0 hA => HA3.out bb o h0 hA))
   obtain ⟨_, _, e4, hcl⟩ := HCELL.out wr Pr.out i hlt
   injection e4 with e4
   injection e4 with e4 e5
   subst e4 e5
   have hri := HR8.out i hlt
   have hpn := HAT.out i hlt
   obtain ⟨pi, hpe⟩ : ∃ pi, pi = ps.getD i 0 := ⟨_, rfl⟩
   obtain ⟨gi, hge⟩ : ∃ gi, gi = g + i := ⟨_, rfl⟩
   rw [← hpe] at hcl hri hpn
   rw [← hge] at hri
   have HRI := qH hri
   have HPN := qH hpn
   have HPI := qH hpe
   have HGI := qH hge
   have hql : i * r ≤ q := countS_last (by have := HR.out; omega) (by rw [HN.out]; exact hlt)
   have hq12 : i * r ≤ min ((i + 1) * r) q := Nat.le_min.2 ⟨Nat.mul_le_mul_right _ (by omega), hql⟩
   have hq22 : min ((i + 1) * r) q ≤ q := Nat.min_le_right _ _
   have hcut := piece_cut16 (R := r) (i := i) (b := b)
   have hmin := piece_min16 (R := r) (i := i) (b := b) (by rw [HQ.out]; exact hql)
   rw [HQ.out] at hcut hmin
   obtain ⟨q1, hq1⟩ : ∃ q1, q1 = i * r := ⟨_, rfl⟩
   obtain ⟨q2, hq2⟩ : ∃ q2, q2 = min ((i + 1) * r) q := ⟨_, rfl⟩
   rw [← hq1] at hql hq12 hcut hmin
   rw [← hq2] at hq12 hq22 hcut hmin
   have HCUT := qH hcut
   have HQ1 := qH hq1.symm
   have HQ2 := qH hq2.symm
   have HMIN := qH hmin
   have hn0 := name16 0 0 (by decide) (by decide) 0 0 rfl rfl (by decide) wr
   have HHL := qH (show (if i + 1 < n then nameL (ps.getD (i + 1) 0) (g + i + 1) else nameL 0 0) = linkL ps g i from by rw [linkL, HPL.out])
   clear hq1 hq2 hql hcut hmin hri hpn hpe hge
   by_cases hl : i < nl
   ·have hil : (i : Int) < (n : Int) - 1 := by omega
    go_wp2_with fail
    refine hn0.mono ?_; clear hn0; rintro e w3 ⟨A0, rfl, hs3, -, hb3⟩
    have B3 := qH (show Below wr.heap.size wr w3 from hb3)
    clear hs3 hcl
    obtain ⟨j, hj⟩ : ∃ j, j = i + 1 := ⟨_, rfl⟩
    have hj0 : (0 : Int) ≤ (i : Int) + 1 := by omega
    have hj1 : (i : Int) + 1 < (n : Int) := by omega
    have hrj := HR8.out j (by omega)
    obtain ⟨pj, hpe⟩ : ∃ pj, pj = ps.getD j 0 := ⟨_, rfl⟩
    obtain ⟨gj, hge⟩ : ∃ gj, gj = g + j := ⟨_, rfl⟩
    rw [← hpe, ← hge] at hrj
    obtain ⟨_, _, e4, hclj⟩ := HCELL.out w3 (Pr.out.below hb3 (Nat.le_refl _)) j (by omega)
    injection e4 with e4
    injection e4 with e4 e5
    subst e4 e5
    rw [← hpe, hj] at hclj
    have hwj : IntKind.u64.wrap ((g : Int) + (j : Int)) = (gj : Int) := by rw [IntKind.wrap_u64]; have := hrj.g; omega
    have hcv : ∀ W, (convert 3 36 (.int .i64 ((i : Int) + 1))).run Tryz.prog W = .ok (.int .u64 (j : Int)) W := fun W => by rw [show (i : Int) + 1 = (j : Int) by omega]; exact run_cvu16 j (by omega) W
    have hn1 := name16 pj gj (by have := hrj.p; omega) (by have := hrj.g; omega) (pj : Int) (gj : Int) rfl rfl (by have := hrj.p; omega) w3
    have HLN := qH (show nameL pj gj = linkL ps g i from by rw [← HHL.out, if_pos (by omega), hpe, hge, hj]; rfl)
    clear hj hrj hpe hge hb3
    go_wp2_with fail
    refine hn1.mono ?_; clear hn1; rintro e w4 ⟨A4, rfl, hs4, -, hb4⟩
    rw [HLN.out] at hs4
    have S4 := qH hs4
    have B4 := qH (B3.out.trans (hb4.mono B3.out.size))
    clear hs4 hb4 B3 hwj hcv hclj hj0 hj1 HLN
    go_wp2_with fail
    have hptX := part16 (LL.out.lc.ac.c.later B4.out) HR.out q i (by omega) (by omega)
    rw [HQ1.out, HQ2.out] at hptX
    refine hptX.mono ?_; clear hptX; rintro e w5 ⟨rfl, hw5⟩
    obtain rfl : w4 = w5 := hw5.symm
    clear hw5
    go_wp2_with fail
    have hcp : q ≤ c2 := HS.out.cap
    have hc63 := HS.out.top
    unfold maxLen at hc63
    have i1 : (0 : Int) ≤ (i : Int) := by omega
    have i2 : (0 : Int) ≤ (q1 : Int) := by omega
    have i3 : (q1 : Int) ≤ (q2 : Int) := by omega
    have i4 : (q2 : Int) ≤ (c2 : Int) := by omega
    refine wp_region_held_drew (S := fun w' => Fr (S') w4.drew w') (by kernel_rfl) (Fr.refl _ _) (fun hHeld => ?_)
    clear hHeld
    refine tA 0 (some 66) rfl (Fr.refl _ _) ?_
    refine tA 1 (some 67) rfl (Fr.refl _ _) ?_
    refine tA 2 (some 68) rfl (Fr.refl _ _) ?_
    refine tA 3 (some 69) rfl (Fr.refl _ _) ?_
    refine tA 4 (some 70) rfl (Fr.refl _ _) ?_
    refine tL 5 (some 71) (v := (.int .u64 (i : Int))) rfl ?yp5 (Fr.refl _ _) ?rp5
    case yp5 =>
     intro wq hSw
     exact step_cvu16 (x := .tmp 70) rfl rfl (by omega)
    try simp only [Act.put,sA,sB,sC]
    refine tL 6 (some 72) (v := (.int .u64 (gi : Int))) rfl ?yp6 (Fr.refl _ _) ?rp6
    case yp6 =>
     intro wq hSw
     exact step_addu16 (a := (g : Int)) (b := (i : Int)) (x := .tmp 69) (y := .tmp 71) rfl rfl rfl (by rw [IntKind.wrap_u64]; have := HGI.out; have := HRI.out.g; omega)
    try simp only [Act.put,sA,sB,sC]
    refine tA 8 (some 74) rfl (Fr.refl _ _) ?_
    refine tA 9 (some 75) rfl (Fr.refl _ _) ?_
    refine tA 10 (some 76) rfl (Fr.refl _ _) ?_
    refine tA 11 (some 77) rfl (Fr.refl _ _) ?_
    refine tA 12 (some 78) rfl (Fr.refl _ _) ?_
    refine rW 7 (some 73) rfl fun K hK => ?_
    go_simp
    obtain ⟨AV, hAV⟩ : ∃ AV, AV = (if c2 = q1 then A2 else A2.map fun x => x.add q1) := ⟨_, rfl⟩
    rw [← hAV]
    have HAV := qH hAV
    clear hAV
    refine (ref16_any (pi : Int) (gi : Int) w4.drew).mono ?_; rintro e w5 ⟨rfl, hb5⟩
    have hfr : Fr (fun b => S' b) w4.drew w5 := Fr.of_below hb5
    have B5 := qH (B4.out.trans (((Below.drew (Below.refl _ _)).trans hb5).mono B4.out.size))
    have S5 := qH (S4.out.below ((Below.drew (Below.refl _ _)).trans hb5) (Nat.le_refl _))
    clear hb5
    go_wp2_with fail
    refine hK.out _ _ hfr (fun hHeld => ?_)
    clear hK K hHeld
    try simp only [Act.put,sA,sB,sC]
    refine wpAnyH_re (S' := fun w' => Fr (S') w5 w') (fun w' h => hfr.trans h) ?_
    clear hfr
    refine rW 13 (some 79) rfl fun K hK => ?_
    have hsl := ((HS.out.fr XX.out.1 (fun bb o h0 hA => HA.out bb o h0 hA)).below B5.out (Nat.le_refl _)).sub16 q1 q2 (by omega) (by omega)
    rw [HCUT.out, ← HAV.out] at hsl
    obtain ⟨z, hz⟩ : ∃ z, z = 10 + (q2 - q1) := ⟨_, rfl⟩
    have HZL := qH (show (leafL k ps g b i).length = z from by
     rw [leafL, List.length_append, linkL_len, show 44 * k - 10 = r from by have := HR.out; omega, HMIN.out, hz])
    refine wp_append_b16 (B := w5.heap.size) (.tmp 74) (.tmp 78) rfl rfl (Own.full S5.out) (Nat.le_refl _) AV (q2 - q1) (c2 - q1) (pieceL r b i) rfl hsl z hz (by omega) ?_
    intro A6 c6 w6 ho6 hb6
    have hs6 := ho6.sl
    rw [← cells_append, show pieceL r b i = pieceL (44 * k - 10) b i from by rw [show 44 * k - 10 = r from by have := HR.out; omega], show linkL ps g i ++ pieceL (44 * k - 10) b i = leafL k ps g b i from rfl] at hs6
    have hfr : Fr (fun b => S' b) w5 w6 := Fr.of_below hb6
    have S6 := qH hs6
    have B6 := qH (B5.out.trans (hb6.mono B5.out.size))
    clear ho6 hb6 hs6 hsl hz
    refine hK.out _ _ hfr (fun hHeld => ?_)
    clear hK K hHeld
    try simp only [Act.put,sA,sB,sC]
    refine wpAnyH_re (S' := fun w' => Fr (S') w6 w') (fun w' h => hfr.trans h) ?_
    clear hfr
    refine rW 14 (some 80) rfl fun K hK => ?_
    go_simp
    have L6 := qH (LL.out.later DK B6.out)
    have hp := SV.put 4 pi gi (leafL k ps g b i) _ _ L6.out.lc.ac HRI.out HPN.out (HZL.out.symm ▸ S6.out)
    rw [HZL.out] at hp
    refine hp.mono ?_; clear hp; rintro e w8 ⟨rfl, hm⟩
    rw [show putAll k (k + m) 4 pi gi (leafL k ps g b i) (putT k (k + m) 4 ps g (leafL k ps g b) xs i) = putT k (k + m) 4 ps g (leafL k ps g b) xs (i + 1) from by rw [HPI.out, HGI.out]; rfl] at hm
    obtain ⟨S8, hL8, hX8⟩ := L6.out.mut hm ((putT_len (i + 1)).trans (putT_len i).symm) (putT_ns HV.out HT.out H.out.lc.ac.len H.out.lc.ac.n (i + 1) (by rw [HPL.out]; omega)) (Wl.mono13 (putT_wl HW.out (i + 1)) (by omega))
    have hfr : Fr (fun b => S' b) w6 w8 := hX8.1
    have L8 := qH hL8
    have X8 := qH (XX.out.trans (hX8.below B6.out))
    clear hm hL8 hX8
    go_wp2_with fail
    refine hK.out _ _ hfr (fun hHeld => ?_)
    clear hK K hHeld
    try simp only [Act.put,sA,sB,sC]
    refine wpAnyH_re (S' := fun w' => Fr (S') w8 w') (fun w' h => hfr.trans h) ?_
    clear hfr
    refine tA 15 (some 65) rfl (Fr.refl _ _) ?_
    refine tA 16 (some 81) rfl (Fr.refl _ _) ?_
    refine tA 17 (some 82) rfl (Fr.refl _ _) ?_
    refine tA 18 (some 17) rfl (Fr.refl _ _) ?_
    refine tA 19 (some 18) rfl (Fr.refl _ _) ?_
    refine tD ?_
    go_wp2_with fail
    go_roundw
    case rel => exact ⟨i + 1, S8, by omega, by go_num, L8.out, X8.out⟩
    case measure => simp [intOf]; omega
   ·have hil : ¬ (i : Int) < (n : Int) - 1 := by omega
    go_wp2_with fail
    refine hn0.mono ?_; clear hn0; rintro e w4 ⟨A4, rfl, hs4, -, hb4⟩
    rw [show nameL 0 0 = linkL ps g i from by rw [← HHL.out, if_neg (by omega)]] at hs4
    have S4 := qH hs4
    have B4 := qH (show Below wr.heap.size wr w4 from hb4)
    clear hs4 hb4 hcl
    go_wp2_with fail
    have hptX := part16 (LL.out.lc.ac.c.later B4.out) HR.out q i (by omega) (by omega)
    rw [HQ1.out, HQ2.out] at hptX
    refine hptX.mono ?_; clear hptX; rintro e w5 ⟨rfl, hw5⟩
    obtain rfl : w4 = w5 := hw5.symm
    clear hw5
    go_wp2_with fail
    have hcp : q ≤ c2 := HS.out.cap
    have hc63 := HS.out.top
    unfold maxLen at hc63
    have i1 : (0 : Int) ≤ (i : Int) := by omega
    have i2 : (0 : Int) ≤ (q1 : Int) := by omega
    have i3 : (q1 : Int) ≤ (q2 : Int) := by omega
    have i4 : (q2 : Int) ≤ (c2 : Int) := by omega
    refine wp_region_held_drew (S := fun w' => Fr (S') w4.drew w') (by kernel_rfl) (Fr.refl _ _) (fun hHeld => ?_)
    clear hHeld
    refine tA 0 (some 66) rfl (Fr.refl _ _) ?_
    refine tA 1 (some 67) rfl (Fr.refl _ _) ?_
    refine tA 2 (some 68) rfl (Fr.refl _ _) ?_
    refine tA 3 (some 69) rfl (Fr.refl _ _) ?_
    refine tA 4 (some 70) rfl (Fr.refl _ _) ?_
    refine tL 5 (some 71) (v := (.int .u64 (i : Int))) rfl ?yq5 (Fr.refl _ _) ?rq5
    case yq5 =>
     intro wq hSw
     exact step_cvu16 (x := .tmp 70) rfl rfl (by omega)
    try simp only [Act.put,sA,sB,sC]
    refine tL 6 (some 72) (v := (.int .u64 (gi : Int))) rfl ?yq6 (Fr.refl _ _) ?rq6
    case yq6 =>
     intro wq hSw
     exact step_addu16 (a := (g : Int)) (b := (i : Int)) (x := .tmp 69) (y := .tmp 71) rfl rfl rfl (by rw [IntKind.wrap_u64]; have := HGI.out; have := HRI.out.g; omega)
    try simp only [Act.put,sA,sB,sC]
    refine tA 8 (some 74) rfl (Fr.refl _ _) ?_
    refine tA 9 (some 75) rfl (Fr.refl _ _) ?_
    refine tA 10 (some 76) rfl (Fr.refl _ _) ?_
    refine tA 11 (some 77) rfl (Fr.refl _ _) ?_
    refine tA 12 (some 78) rfl (Fr.refl _ _) ?_
    refine rW 7 (some 73) rfl fun K hK => ?_
    go_simp
    obtain ⟨AV, hAV⟩ : ∃ AV, AV = (if c2 = q1 then A2 else A2.map fun x => x.add q1) := ⟨_, rfl⟩
    rw [← hAV]
    have HAV := qH hAV
    clear hAV
    refine (ref16_any (pi : Int) (gi : Int) w4.drew).mono ?_; rintro e w5 ⟨rfl, hb5⟩
    have hfr : Fr (fun b => S' b) w4.drew w5 := Fr.of_below hb5
    have B5 := qH (B4.out.trans (((Below.drew (Below.refl _ _)).trans hb5).mono B4.out.size))
    have S5 := qH (S4.out.below ((Below.drew (Below.refl _ _)).trans hb5) (Nat.le_refl _))
    clear hb5
    go_wp2_with fail
    refine hK.out _ _ hfr (fun hHeld => ?_)
    clear hK K hHeld
    try simp only [Act.put,sA,sB,sC]
    refine wpAnyH_re (S' := fun w' => Fr (S') w5 w') (fun w' h => hfr.trans h) ?_
    clear hfr
    refine rW 13 (some 79) rfl fun K hK => ?_
    have hsl := ((HS.out.fr XX.out.1 (fun bb o h0 hA => HA.out bb o h0 hA)).below B5.out (Nat.le_refl _)).sub16 q1 q2 (by omega) (by omega)
    rw [HCUT.out, ← HAV.out] at hsl
    obtain ⟨z, hz⟩ : ∃ z, z = 10 + (q2 - q1) := ⟨_, rfl⟩
    have HZL := qH (show (leafL k ps g b i).length = z from by
     rw [leafL, List.length_append, linkL_len, show 44 * k - 10 = r from by have := HR.out; omega, HMIN.out, hz])
    refine wp_append_b16 (B := w5.heap.size) (.tmp 74) (.tmp 78) rfl rfl (Own.full S5.out) (Nat.le_refl _) AV (q2 - q1) (c2 - q1) (pieceL r b i) rfl hsl z hz (by omega) ?_
    intro A6 c6 w6 ho6 hb6
    have hs6 := ho6.sl
    rw [← cells_append, show pieceL r b i = pieceL (44 * k - 10) b i from by rw [show 44 * k - 10 = r from by have := HR.out; omega], show linkL ps g i ++ pieceL (44 * k - 10) b i = leafL k ps g b i from rfl] at hs6
    have hfr : Fr (fun b => S' b) w5 w6 := Fr.of_below hb6
    have S6 := qH hs6
    have B6 := qH (B5.out.trans (hb6.mono B5.out.size))
    clear ho6 hb6 hs6 hsl hz
    refine hK.out _ _ hfr (fun hHeld => ?_)
    clear hK K hHeld
    try simp only [Act.put,sA,sB,sC]
    refine wpAnyH_re (S' := fun w' => Fr (S') w6 w') (fun w' h => hfr.trans h) ?_
    clear hfr
    refine rW 14 (some 80) rfl fun K hK => ?_
    go_simp
    have L6 := qH (LL.out.later DK B6.out)
    have hp := SV.put 4 pi gi (leafL k ps g b i) _ _ L6.out.lc.ac HRI.out HPN.out (HZL.out.symm ▸ S6.out)
    rw [HZL.out] at hp
    refine hp.mono ?_; clear hp; rintro e w8 ⟨rfl, hm⟩
    rw [show putAll k (k + m) 4 pi gi (leafL k ps g b i) (putT k (k + m) 4 ps g (leafL k ps g b) xs i) = putT k (k + m) 4 ps g (leafL k ps g b) xs (i + 1) from by rw [HPI.out, HGI.out]; rfl] at hm
    obtain ⟨S8, hL8, hX8⟩ := L6.out.mut hm ((putT_len (i + 1)).trans (putT_len i).symm) (putT_ns HV.out HT.out H.out.lc.ac.len H.out.lc.ac.n (i + 1) (by rw [HPL.out]; omega)) (Wl.mono13 (putT_wl HW.out (i + 1)) (by omega))
    have hfr : Fr (fun b => S' b) w6 w8 := hX8.1
    have L8 := qH hL8
    have X8 := qH (XX.out.trans (hX8.below B6.out))
    clear hm hL8 hX8
    go_wp2_with fail
    refine hK.out _ _ hfr (fun hHeld => ?_)
    clear hK K hHeld
    try simp only [Act.put,sA,sB,sC]
    refine wpAnyH_re (S' := fun w' => Fr (S') w8 w') (fun w' h => hfr.trans h) ?_
    clear hfr
    refine tA 15 (some 65) rfl (Fr.refl _ _) ?_
    refine tA 16 (some 81) rfl (Fr.refl _ _) ?_
    refine tA 17 (some 82) rfl (Fr.refl _ _) ?_
    refine tA 18 (some 17) rfl (Fr.refl _ _) ?_
    refine tA 19 (some 18) rfl (Fr.refl _ _) ?_
    refine tD ?_
    go_wp2_with fail
    go_roundw
    case rel => exact ⟨i + 1, S8, by omega, by go_num, L8.out, X8.out⟩
    case measure => simp [intOf]; omega
  ·obtain rfl : i = n := by omega
   go_wp2_with fail
   go_ret
   exact ⟨S', rfl, LL.out, XX.out⟩
end
end Go.Proofs.YtokbhgbajdomnaaGreatDoor
