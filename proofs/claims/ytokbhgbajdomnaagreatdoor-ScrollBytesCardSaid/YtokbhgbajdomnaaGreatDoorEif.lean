/-
  The contract of package scroll's Get. Conditions: bounds. (Written by gen_eif.py.)
-/
import Derived.Test.YtokbhgbajdomnaaGreatDoorEie
set_option linter.unusedVariables false
set_option maxRecDepth 20000
set_option maxHeartbeats 3200000
namespace Go.Proofs.YtokbhgbajdomnaaGreatDoor
open Go.RowKit Go.Proofs
section
variable {Rep : World → (Nat → Prop) → Nat → Dv → Prop} {Good : Nat → Nat → (Nat → Bool) → Prop} {w w' : World} {S : Nat → Prop} {A C k m F T N : Nat} {xs : List Dv}
theorem RetGet16.far {ps : List Nat} {b : List UInt8} {q n i0 : Nat} {w2 : World} {e : Ending} (h : RetGet16 ps b q n i0 w2 e w') (hb : Below w.heap.size w w2) : RetGet16 ps b q n i0 w e w' := by
 have hs := hb.size
 rcases h with ⟨h1, A2, c2, A3, c3, h2, h3, h4, h5, h6⟩ | ⟨h1, h2, h3⟩
 ·exact .inl ⟨h1, A2, c2, A3, c3, h2, h3, h4, hb.trans (h5.mono hs), fun bb hb => Nat.le_trans hs (h6 bb hb)⟩
 ·exact .inr ⟨h1, h2, hb.trans (h3.mono hs)⟩
theorem get16_any (DK : DrvK Rep) (SV : StrV Rep Good) (h : Ac13 Rep w S A C k m F T N xs) (r : Nat) (hr : 44 * k = r + 10) (ps : List Nat) (g : Nat) (b : List UInt8) (q n i0 p0 : Nat) (G : Nat → Nat → Bool) (hq : b.length = q) (hZ : q ≤ 1000000) (hn : countS r q = n) (hn4 : n ≤ 400) (hpl : ps.length = n) (hp0 : ps.getD 0 0 = p0)
  (hv : VOk k N ps g) (hval : ValT xs k (k + m) N 4 ps g (leafL k ps g b) G) (hG : ∀ i, i < n → i < i0 → Good k (k + m) (G i)) (hL : i0 < n → StrL Rep ∧ ¬ k ≤ cntG (k + m) (G i0)) :
  Calls Tryz.prog 27 #[.pointer (some ⟨A, 0, none⟩), .pointer (some ⟨C, 0, none⟩), .agg #[.int .i64 (p0 : Int), .int .u64 (g : Int), .int .i64 (n : Int), .int .i64 (q : Int)]] w (RetGet16 ps b q n i0 w) := by
 have hk := h.c.k1
 have hn1 : 0 < n := by rw [← hn]; exact countS_pos
 have hfo := fun W (hW : Ac13 Rep W S A C k m F T N xs) => follow16_any DK SV hW r hr ps g b q n i0 p0 G hq hZ hn hn4 hpl hp0 hv hval hG hL
 have hri := hv.rT (leaf_ok (g := g) (ps := ps) (b := b) hk) (i := 0) (by omega)
 have hat := hv.at_ 0 (by omega)
 have hstr := hval 0 (by omega)
 rw [hp0, Nat.add_zero] at hri hstr
 rw [hp0] at hat
 have HFO := qH hfo
 have HRI := qH hri
 have HAT := qH hat
 have HST := qH hstr
 have HR := qH hr
 have HCT := qH (show cntZ r (q : Int) = n by rw [cntZ_nat]; exact hn)
 have H := qH h
 have hxa := Sc16.new (w := w) (a := (p0 : Int)) (g := (g : Int)) (c := (n : Int)) (z := (q : Int))
 have hba : Below w.heap.size w (w.alloc (.cells #[.int .i64 (p0 : Int), .int .u64 (g : Int), .int .i64 (n : Int), .int .i64 (q : Int)] 38)) := (Below.refl _ _).alloc (Nat.le_refl _) _
 have HBA := qH hba
 have HXA := qH hxa
 clear h hr hn hpl hv hq hval hG hL hp0 hfo hri hat hstr hxa hba
 go_enter Tryz.func27, Tryz.ntmps27
 go_wp2_with fail
 obtain ⟨wa, hwa⟩ : ∃ x, x = w.alloc (.cells #[.int .i64 (p0 : Int), .int .u64 (g : Int), .int .i64 (n : Int), .int .i64 (q : Int)] 38) := ⟨_, rfl⟩
 rw [← hwa] at HBA HXA ⊢
 clear hwa
 obtain ⟨B, hB⟩ : ∃ B, B = w.heap.size := ⟨_, rfl⟩
 rw [← hB] at HXA ⊢
 clear hB
 have AC := qH (H.out.later DK HBA.out)
 have ht := there16_yes AC.out
 refine ht.mono ?_; clear ht; rintro e w1 ⟨rfl, hb⟩
 have B1 := qH (HBA.out.trans (hb.mono HBA.out.size))
 have AC := qH (show Ac13 Rep w1.drew S A C k m F T N xs from AC.out.later DK (hb.trans ((Below.drew (Below.refl _ _)).mono hb.size)))
 have BW := qH B1.out.drew
 have X1 := qH (HXA.out.later hb)
 have C0 := qH (show w1.drew.cell? ⟨B, 0, none⟩ = _ from X1.out.c0)
 have C1 := qH (show w1.drew.cell? ⟨B, 1, none⟩ = _ from X1.out.c1)
 have C2 := qH (show w1.drew.cell? ⟨B, 2, none⟩ = _ from X1.out.c2)
 have C3 := qH (show w1.drew.cell? ⟨B, 3, none⟩ = _ from X1.out.c3)
 clear hb B1
 go_wp2_with fail
 have XW := qH (show Sc16 w1.drew B (p0 : Int) (g : Int) (n : Int) (q : Int) from X1.out)
 clear X1
 refine wp_region_held_drew (S := fun w' => Fr (fun _ => False) w1.drew w') (by kernel_rfl) (Fr.refl _ _) (fun hHeld => ?_)
 clear hHeld
 refine tA 0 (some 13) rfl (Fr.refl _ _) ?_
 refine tL 1 (some 14) (v := ?vg1) rfl ?yg1 (Fr.refl _ _) ?rg1
 case yg1 =>
  intro wq hSw
  (try dsimp only at hSw)
  have hq := hSw.cell_some C3.out (fun h => h)
  go_simp <;> with_reducible rfl
 try simp only [Act.put,sA,sB,sC]
 refine tL 2 (some 15) (v := (.bool false)) rfl ?yg2 (Fr.refl _ _) ?rg2
 case yg2 =>
  intro wq hSw
  exact step_lt15 (x := .tmp 14) rfl rfl rfl (decide_eq_false (by omega))
 try simp only [Act.put,sA,sB,sC]
 refine tA 3 (some 16) rfl (Fr.refl _ _) ?_
 refine tA 4 (some 17) rfl (Fr.refl _ _) ?_
 refine tL 5 (some 18) (v := ?vg5) rfl ?yg5 (Fr.refl _ _) ?rg5
 case yg5 =>
  intro wq hSw
  (try dsimp only at hSw)
  have hq := hSw.cell_some C2.out (fun h => h)
  go_simp <;> with_reducible rfl
 try simp only [Act.put,sA,sB,sC]
 refine tA 6 (some 19) rfl (Fr.refl _ _) ?_
 refine tA 7 (some 20) rfl (Fr.refl _ _) ?_
 refine tL 8 (some 21) (v := ?vg8) rfl ?yg8 (Fr.refl _ _) ?rg8
 case yg8 =>
  intro wq hSw
  (try dsimp only at hSw)
  have hq := hSw.cell_some C3.out (fun h => h)
  go_simp <;> with_reducible rfl
 try simp only [Act.put,sA,sB,sC]
 refine rW 9 (some 22) rfl fun K hK => ?_
 go_simp
 have hct := count16 AC.out.c HR.out (q : Int) (by omega) (by omega)
 rw [HCT.out] at hct
 refine (hct).mono ?_; rintro e v2 ⟨rfl, hb⟩
 have hfr : Fr (fun _ => False) w1.drew v2 := Fr.of_below hb
 have AC := qH (AC.out.later DK hb)
 have BW := qH (BW.out.trans (hb.mono BW.out.size))
 have C0 := qH (hfr.cell_some C0.out (fun h => h))
 have C1 := qH (hfr.cell_some C1.out (fun h => h))
 have C2 := qH (hfr.cell_some C2.out (fun h => h))
 have C3 := qH (hfr.cell_some C3.out (fun h => h))
 have XW := qH (hfr.row_some XW.out (fun h => h))
 clear hb
 clear hct
 go_wp2_with fail
 refine hK.out _ _ hfr (fun hHeld => ?_)
 clear hK K hHeld
 try simp only [Act.put,sA,sB,sC]
 refine wpAnyH_re (S' := fun w' => Fr (fun _ => False) v2 w') (fun w' h => hfr.trans h) ?_
 clear hfr
 refine tL 10 (some 23) (v := (.bool false)) rfl ?yg10 (Fr.refl _ _) ?rg10
 case yg10 =>
  intro wq hSw
  exact step_ne15 (x := .tmp 18) (y := .tmp 22) rfl rfl rfl (decide_eq_true rfl)
 try simp only [Act.put,sA,sB,sC]
 refine tA 11 (some 24) rfl (Fr.refl _ _) ?_
 refine tA 12 (some 25) rfl (Fr.refl _ _) ?_
 refine tA 13 (some 26) rfl (Fr.refl _ _) ?_
 refine tL 14 (some 27) (v := ?vg14) rfl ?yg14 (Fr.refl _ _) ?rg14
 case yg14 =>
  intro wq hSw
  (try dsimp only at hSw)
  have hq := hSw.cell_some C2.out (fun h => h)
  go_simp <;> with_reducible rfl
 try simp only [Act.put,sA,sB,sC]
 refine tL 15 (some 28) (v := (.bool false)) rfl ?yg15 (Fr.refl _ _) ?rg15
 case yg15 =>
  intro wq hSw
  exact step_gt15 (x := .tmp 27) rfl rfl rfl (decide_eq_false (by omega))
 try simp only [Act.put,sA,sB,sC]
 refine tA 16 (some 29) rfl (Fr.refl _ _) ?_
 refine tA 17 (some 30) rfl (Fr.refl _ _) ?_
 refine tA 18 (some 31) rfl (Fr.refl _ _) ?_
 refine tA 19 (some 32) rfl (Fr.refl _ _) ?_
 refine tA 20 (some 33) rfl (Fr.refl _ _) ?_
 refine tL 21 (some 34) (v := ?vg21) rfl ?yg21 (Fr.refl _ _) ?rg21
 case yg21 =>
  intro wq hSw
  (try dsimp only at hSw)
  have hq := hSw.cell_some C0.out (fun h => h)
  go_simp <;> with_reducible rfl
 try simp only [Act.put,sA,sB,sC]
 refine tA 22 (some 35) rfl (Fr.refl _ _) ?_
 refine tL 23 (some 36) (v := ?vg23) rfl ?yg23 (Fr.refl _ _) ?rg23
 case yg23 =>
  intro wq hSw
  (try dsimp only at hSw)
  have hq := hSw.cell_some C1.out (fun h => h)
  go_simp <;> with_reducible rfl
 try simp only [Act.put,sA,sB,sC]
 refine rW 24 (some 37) rfl fun K hK => ?_
 go_simp
 refine (ref16_any (p0 : Int) (g : Int) v2).mono ?_; rintro e v3 ⟨rfl, hb⟩
 have hfr : Fr (fun _ => False) v2 v3 := Fr.of_below hb
 have AC := qH (AC.out.later DK hb)
 have BW := qH (BW.out.trans (hb.mono BW.out.size))
 have C0 := qH (hfr.cell_some C0.out (fun h => h))
 have C1 := qH (hfr.cell_some C1.out (fun h => h))
 have C2 := qH (hfr.cell_some C2.out (fun h => h))
 have C3 := qH (hfr.cell_some C3.out (fun h => h))
 have XW := qH (hfr.row_some XW.out (fun h => h))
 clear hb
 go_wp2_with fail
 refine hK.out _ _ hfr (fun hHeld => ?_)
 clear hK K hHeld
 try simp only [Act.put,sA,sB,sC]
 refine wpAnyH_re (S' := fun w' => Fr (fun _ => False) v3 w') (fun w' h => hfr.trans h) ?_
 clear hfr
 refine rW 25 (some 38) rfl fun K hK => ?_
 go_simp
 refine (could16 DK SV AC.out HRI.out HAT.out HST.out).mono ?_; rintro e v4 ⟨rfl, hb⟩
 have hfr : Fr (fun _ => False) v3 v4 := Fr.of_below hb
 have AC := qH (AC.out.later DK hb)
 have BW := qH (BW.out.trans (hb.mono BW.out.size))
 have C0 := qH (hfr.cell_some C0.out (fun h => h))
 have C1 := qH (hfr.cell_some C1.out (fun h => h))
 have C2 := qH (hfr.cell_some C2.out (fun h => h))
 have C3 := qH (hfr.cell_some C3.out (fun h => h))
 have XW := qH (hfr.row_some XW.out (fun h => h))
 clear hb
 go_wp2_with fail
 refine hK.out _ _ hfr (fun hHeld => ?_)
 clear hK K hHeld
 try simp only [Act.put,sA,sB,sC]
 refine wpAnyH_re (S' := fun w' => Fr (fun _ => False) v4 w') (fun w' h => hfr.trans h) ?_
 clear hfr
 refine tA 26 (some 39) rfl (Fr.refl _ _) ?_
 refine tA 27 (some 40) rfl (Fr.refl _ _) ?_
 refine tD ?_
 go_wp2_with (refine at_dst11 (d := 43) ?_; refine wpList_step11 (o := ⟨some 43, _, _, _, _, _⟩) rfl _ _ (step_sc16 (x := .tmp 5) rfl rfl XW.out) ?_)
 refine (HFO.out _ AC.out).mono ?_; intro e w9 hret
 have hret := hret.far BW.out
 rcases hret with ⟨h1, A2, c2, A3, c3, rfl, h3, h4, h5, h6⟩ | ⟨h1, rfl, h3⟩
 ·have H3 := qH h3
  have H4 := qH h4
  have H5 := qH h5
  have H6 := qH h6
  clear h3 h4 h5 h6
  go_wp2_with fail
  go_ret3
  exact .inl ⟨h1, A2, c2, A3, c3, rfl, H3.out, H4.out, H5.out, H6.out⟩
 ·have H3 := qH h3
  clear h3
  go_wp2_with fail
  go_ret3
  exact .inr ⟨h1, rfl, H3.out⟩
theorem get16_noA (v : Value) (p0 g n q : Int) (w : World) :
  Calls Tryz.prog 27 #[.pointer none, v, .agg #[.int .i64 p0, .int .u64 g, .int .i64 n, .int .i64 q]] w fun e w' => e = .returned (.tuple #[.slice none 0 0, .slice none 0 0, .int .i64 1]) ∧ Below w.heap.size w w' := by
 have hn := fun W => there16_noA v W
 have hb : Below w.heap.size w (w.alloc (.cells #[.int .i64 p0, .int .u64 g, .int .i64 n, .int .i64 q] 38)) := (Below.refl _ _).alloc (Nat.le_refl _) _
 go_enter Tryz.func27, Tryz.ntmps27
 go_wp2_with fail
 refine (hn _).mono ?_; clear hn; rintro e w1 ⟨rfl, rfl⟩
 go_wp2_with fail
 go_ret3
 exact ⟨rfl, hb⟩
theorem get16_noC (DK : DrvK Rep) (h : AP Rep w S A xs) (h0 : 0 < xs.length) (p0 g n q : Int) :
  Calls Tryz.prog 27 #[.pointer (some ⟨A, 0, none⟩), .pointer none, .agg #[.int .i64 p0, .int .u64 g, .int .i64 n, .int .i64 q]] w fun e w' => e = .returned (.tuple #[.slice none 0 0, .slice none 0 0, .int .i64 1]) ∧ Below w.heap.size w w' := by
 have hb : Below w.heap.size w (w.alloc (.cells #[.int .i64 p0, .int .u64 g, .int .i64 n, .int .i64 q] 38)) := (Below.refl _ _).alloc (Nat.le_refl _) _
 have hn := there16_noC (h.later DK.lay hb) h0
 have HB := qH hb
 clear h hb
 go_enter Tryz.func27, Tryz.ntmps27
 go_wp2_with fail
 refine hn.mono ?_; clear hn; rintro e w1 ⟨rfl, rfl⟩
 go_wp2_with fail
 go_ret3
 exact ⟨rfl, HB.out⟩
end
end Go.Proofs.YtokbhgbajdomnaaGreatDoor
