/-
  The contract of package blob's PutBytes behind nothing. Conditions: bounds; no number below 0. (Written by gen_ehj.py.)
-/
import Derived.Test.YthmneinejfbheaaGreatDoorKc
import Derived.Test.YthmneinejfbheaaGreatDoorEhi
set_option linter.unusedVariables false
set_option maxRecDepth 20000
set_option maxHeartbeats 1600000
namespace Go.Proofs.YthmneinejfbheaaGreatDoor
open Go.RowKit Go.Proofs
theorem clone_nil15 (w : World) : Calls Tryz.prog 46 #[.slice none 0 0] w fun e w' => e = .returned (.slice none 0 0) ∧ w' = w := by
 have hq : (binOp .eql 49 (.slice none 0 0) (.slice none 0 0)).run Tryz.prog w = .ok (.bool true) w := by kernel_rfl
 go_enter Tryz.func46, Tryz.ntmps46
 go_wp2_with fail
 go_ret
 exact ⟨rfl, rfl⟩
structure Al15 (w : World) (B X : Nat) (l : List UInt8) : Prop where
 ex : ∃ A n c, w.heap[X]? = some (.cells #[.slice A n c] 49 (0, 0)) ∧ Rn w A 5 1 n c (cells l) ∧ ∀ b, Bk A b → B ≤ b ∧ b ≠ X
 lo : B ≤ X
 len : l.length ≤ 100000
theorem venc_le : ∀ (f x : Nat), (venc f x).length ≤ f + 1
 | 0, x => by simp [venc]
 | f + 1, x => by
  by_cases h : x < 128
  ·rw [venc_small _ _ h]; simp
  ·rw [venc_more _ _ h, List.length_cons]
   have := venc_le f (x / 128)
   omega
theorem put1_any (B X x : Nat) (l : List UInt8) (hx : x < 18446744073709551616) (w : World) (h : Al15 w B X l) (hB : B ≤ w.heap.size) (hl : l.length ≤ 99990) :
  Calls Tryz.prog 47 #[.int .u64 (x : Int), .pointer (some ⟨X, 0, none⟩)] w fun e w' => e = .returned (.tuple #[]) ∧ Al15 w' B X (l ++ venc 9 x) ∧ Below B w w' := by
 obtain ⟨⟨A, n, c, hbx, hrn, hA⟩, hlo, _⟩ := h
 have hn : n = l.length := by have := hrn.sl.len; rw [cells_length] at this; omega
 have hv := venc_le 9 x
 obtain ⟨i0, hi0, hz0, hz1, hz2⟩ := info_parts info_u8
 have Hi0 := qH hi0
 have Hz0 := qH hz0
 have Hz1 := qH hz1
 have Hz2 := qH hz2
 have HXW := qH (show w.drew.heap[X]? = _ from hbx)
 have HR := qH (hrn.later (Below.drew (Below.refl _ _)))
 have HB := qH (show Below B w w.drew from Below.drew (Below.refl _ _))
 have HN := qH hn
 have HA := qH hA
 have HBK := qH (show ∀ b, Bk A b → b ≠ X from fun b hb => (hA b hb).2)
 clear hn hbx hrn hA hi0 hz0 hz1 hz2
 go_enter Tryz.func47, Tryz.ntmps47
 go_wp2_with fail
 refine wp_region_held_drew (S := fun w' => Fr (fun b => b = X ∨ Bk A b) w w') (by kernel_rfl) (Fr.drew (Fr.refl _ _)) (fun hHeld => ?_)
 clear hHeld
 have hHeld : Fr (fun b => b = X ∨ Bk A b) w w.drew := Fr.drew (Fr.refl _ _)
 have hz_0 : w.heap.size ≤ w.drew.heap.size := Nat.le_refl _
 obtain ⟨v_1, hw⟩ : ∃ v_1, v_1 = w.drew := ⟨_, rfl⟩
 rw [← hw] at hHeld hz_0 HXW HR HB ⊢
 clear hw
 refine tA 1 (some 4) rfl hHeld ?_
 refine wpAnyH_ready (rs := [0, 2]) (by kernel_rfl) (by simp) ?_
 refine AllReadyH.cons (o := ⟨some 3, _, _, _, _, _⟩) rfl (fun K hK => ?_) (AllReadyH.cons (o := ⟨some 5, _, _, _, _, _⟩) rfl (fun K hK => ?_) (AllReadyH.nil))
 ·have hq : v_1.cell? ⟨X, 0, none⟩ = some (.slice A n c) := cell_of_one HXW.out
  go_simp
  refine hK.out _ _ hHeld fun _ => ?_
  clear hK K
  try simp only [Act.put,sA,sB,sC]
  refine rW 2 (some 5) rfl fun K hK => ?_
  go_simp
  have hp := putVar_any none 0 0 [] x v_1 (Sl.nil v_1 1 0 (by decide)) (by decide) hx
  rw [List.nil_append] at hp
  refine hp.mono ?_; clear hp; rintro e v_3 ⟨A5, n5, c5, rfl, hs5, hb5⟩
  have hfN : Fr (fun b => b = X ∨ Bk A b) v_1 v_3 := Fr.of_below hb5
  have hn5 := hs5.len
  rw [cells_length, Nat.mul_one] at hn5
  have S5 := qH hs5
  have HR := qH (HR.out.later hb5)
  have HXW := qH ((hb5.block X (block_lt HXW.out)).trans HXW.out)
  have HB := qH (HB.out.trans (hb5.mono (by have := HB.out.size; omega)))
  clear hs5 hb5
  go_wp2_with fail
  have hHeld := hHeld.trans hfN
  have hz_4 := hfN.size
  refine hK.out _ _ hHeld fun _ => ?_
  clear hK K hfN
  try simp only [Act.put,sA,sB,sC]
  refine rW 3 (some 6) rfl fun K hK => ?_
  refine wp_append_rn (o := ⟨some 6, _, _, _, _, _⟩) (.tmp 3) (.tmp 5) 49 49 rfl i0 (.int .u8 0) 1 Tryz.underlying49 Hi0.out Hz0.out Hz1.out Hz2.out rfl (by decide) rfl HR.out _ n5 (cells (venc 9 x)) rfl (S5.out.src Tryz.underlying49 (by decide) (cells_one _)) (by have := HN.out; unfold maxLen; omega) (by have := HN.out; omega) ?_
  intro A7 c7 w7 hrn hfb hor
  have hfN : Fr (fun b => b = X ∨ Bk A b) v_3 w7 := hfb.mono (fun b hb => .inr hb)
  have X7 := qH (hfb.row_some HXW.out (fun hb => HBK.out _ hb rfl))
  have B7 := qH (HB.out.trans (hfb.below (by have := HB.out.size; omega) (fun b hb => (HA.out b hb).1)))
  have A7' := qH (show ∀ b, Bk A7 b → B ≤ b ∧ b ≠ X from fun b hb => by
   rcases hor with e | e
   ·exact HA.out b (e ▸ hb)
   ·rw [e] at hb
    obtain ⟨o, hb⟩ := hb
    injection hb with hb
    injection hb with hb _
    have := block_lt HXW.out
    have := HB.out.size
    omega)
  have R7 := qH hrn
  have CX7 := qH (cell_of_one X7.out)
  have FX7 := qH (show w7.frozen? ⟨X, 0, none⟩ = false from frozen_of_row _ _ _ _ _ X7.out)
  clear hrn hfb hor
  have hHeld := hHeld.trans hfN
  have hz_5 := hfN.size
  refine hK.out _ _ hHeld fun _ => ?_
  clear hK K hfN
  try simp only [Act.put,sA,sB,sC]
  refine rW 4 none rfl fun K hK => ?_
  have q0 := CX7.out
  have q1 := FX7.out
  go_simp
  clear q0 q1
  have hfN : Fr (fun b => b = X ∨ Bk A b) w7 (w7.setCell ⟨X, 0, none⟩ (.slice A7 (n + n5) c7)) := (Fr.refl (fun b => b = X ∨ Bk A b) _).setCell (p := ⟨X, 0, none⟩) (.inr (.inl rfl)) _
  have hb8 := heap_setCell_same w7 X 0 _ _ (.slice A7 (n + n5) c7) X7.out
  have hfx : Fr (fun b => b = X) w7 (w7.setCell ⟨X, 0, none⟩ (.slice A7 (n + n5) c7)) := (Fr.refl (fun b => b = X) _).setCell (p := ⟨X, 0, none⟩) (.inr rfl) _
  have AL := qH (show Al15 (w7.setCell ⟨X, 0, none⟩ (.slice A7 (n + n5) c7)) B X (l ++ venc 9 x) from ⟨⟨A7, n + n5, c7, hb8, by rw [cells_append]; exact R7.out.fr hfx (fun b hb => (A7'.out b hb).2), A7'.out⟩, hlo, by rw [List.length_append]; omega⟩)
  have BL := qH (B7.out.trans (hfx.below (by have := B7.out.size; omega) (fun b hb => by have hb : b = X := hb; omega)))
  obtain ⟨w8, hw8⟩ : ∃ y, y = w7.setCell ⟨X, 0, none⟩ (.slice A7 (n + n5) c7) := ⟨_, rfl⟩
  rw [← hw8] at hfN AL BL ⊢
  clear hw8 hb8 hfx
  have hHeld := hHeld.trans hfN
  have hz_6 := hfN.size
  refine hK.out _ _ hHeld fun _ => ?_
  clear hK K hfN
  try simp only [Act.put,sA,sB,sC]
  refine tD ?_
  clear hHeld
  go_wp2_with fail
  go_end0
  exact ⟨rfl, AL.out, BL.out⟩
 ·go_simp
  have hp := putVar_any none 0 0 [] x v_1 (Sl.nil v_1 1 0 (by decide)) (by decide) hx
  rw [List.nil_append] at hp
  refine hp.mono ?_; clear hp; rintro e v_7 ⟨A5, n5, c5, rfl, hs5, hb5⟩
  have hfN : Fr (fun b => b = X ∨ Bk A b) v_1 v_7 := Fr.of_below hb5
  have hn5 := hs5.len
  rw [cells_length, Nat.mul_one] at hn5
  have S5 := qH hs5
  have HR := qH (HR.out.later hb5)
  have HXW := qH ((hb5.block X (block_lt HXW.out)).trans HXW.out)
  have HB := qH (HB.out.trans (hb5.mono (by have := HB.out.size; omega)))
  clear hs5 hb5
  go_wp2_with fail
  have hHeld := hHeld.trans hfN
  have hz_8 := hfN.size
  refine hK.out _ _ hHeld fun _ => ?_
  clear hK K hfN
  try simp only [Act.put,sA,sB,sC]
  refine rW 0 (some 3) rfl fun K hK => ?_
  have hq : v_7.cell? ⟨X, 0, none⟩ = some (.slice A n c) := cell_of_one HXW.out
  go_simp
  refine hK.out _ _ hHeld fun _ => ?_
  clear hK K
  try simp only [Act.put,sA,sB,sC]
  refine rW 3 (some 6) rfl fun K hK => ?_
  refine wp_append_rn (o := ⟨some 6, _, _, _, _, _⟩) (.tmp 3) (.tmp 5) 49 49 rfl i0 (.int .u8 0) 1 Tryz.underlying49 Hi0.out Hz0.out Hz1.out Hz2.out rfl (by decide) rfl HR.out _ n5 (cells (venc 9 x)) rfl (S5.out.src Tryz.underlying49 (by decide) (cells_one _)) (by have := HN.out; unfold maxLen; omega) (by have := HN.out; omega) ?_
  intro A7 c7 w7 hrn hfb hor
  have hfN : Fr (fun b => b = X ∨ Bk A b) v_7 w7 := hfb.mono (fun b hb => .inr hb)
  have X7 := qH (hfb.row_some HXW.out (fun hb => HBK.out _ hb rfl))
  have B7 := qH (HB.out.trans (hfb.below (by have := HB.out.size; omega) (fun b hb => (HA.out b hb).1)))
  have A7' := qH (show ∀ b, Bk A7 b → B ≤ b ∧ b ≠ X from fun b hb => by
   rcases hor with e | e
   ·exact HA.out b (e ▸ hb)
   ·rw [e] at hb
    obtain ⟨o, hb⟩ := hb
    injection hb with hb
    injection hb with hb _
    have := block_lt HXW.out
    have := HB.out.size
    omega)
  have R7 := qH hrn
  have CX7 := qH (cell_of_one X7.out)
  have FX7 := qH (show w7.frozen? ⟨X, 0, none⟩ = false from frozen_of_row _ _ _ _ _ X7.out)
  clear hrn hfb hor
  have hHeld := hHeld.trans hfN
  have hz_9 := hfN.size
  refine hK.out _ _ hHeld fun _ => ?_
  clear hK K hfN
  try simp only [Act.put,sA,sB,sC]
  refine rW 4 none rfl fun K hK => ?_
  have q0 := CX7.out
  have q1 := FX7.out
  go_simp
  clear q0 q1
  have hfN : Fr (fun b => b = X ∨ Bk A b) w7 (w7.setCell ⟨X, 0, none⟩ (.slice A7 (n + n5) c7)) := (Fr.refl (fun b => b = X ∨ Bk A b) _).setCell (p := ⟨X, 0, none⟩) (.inr (.inl rfl)) _
  have hb8 := heap_setCell_same w7 X 0 _ _ (.slice A7 (n + n5) c7) X7.out
  have hfx : Fr (fun b => b = X) w7 (w7.setCell ⟨X, 0, none⟩ (.slice A7 (n + n5) c7)) := (Fr.refl (fun b => b = X) _).setCell (p := ⟨X, 0, none⟩) (.inr rfl) _
  have AL := qH (show Al15 (w7.setCell ⟨X, 0, none⟩ (.slice A7 (n + n5) c7)) B X (l ++ venc 9 x) from ⟨⟨A7, n + n5, c7, hb8, by rw [cells_append]; exact R7.out.fr hfx (fun b hb => (A7'.out b hb).2), A7'.out⟩, hlo, by rw [List.length_append]; omega⟩)
  have BL := qH (B7.out.trans (hfx.below (by have := B7.out.size; omega) (fun b hb => by have hb : b = X := hb; omega)))
  obtain ⟨w8, hw8⟩ : ∃ y, y = w7.setCell ⟨X, 0, none⟩ (.slice A7 (n + n5) c7) := ⟨_, rfl⟩
  rw [← hw8] at hfN AL BL ⊢
  clear hw8 hb8 hfx
  have hHeld := hHeld.trans hfN
  have hz_10 := hfN.size
  refine hK.out _ _ hHeld fun _ => ?_
  clear hK K hfN
  try simp only [Act.put,sA,sB,sC]
  refine tD ?_
  clear hHeld
  go_wp2_with fail
  go_end0
  exact ⟨rfl, AL.out, BL.out⟩
def blobB (q g : Nat) (ps : List Nat) : List UInt8 := venc 9 q ++ venc 9 g ++ venc 9 ps.length ++ ps.flatMap (venc 9)
theorem putBytes15 (A : Option Addr) (n c q g : Nat) (ps : List Nat) (hn : n ≤ 600) (hl : ps.length = n) (hq : q < 9223372036854775808) (hg : g < 18446744073709551616) (hp : ∀ x ∈ ps, x < 9223372036854775808) (w : World) (hs : Sl w 1 A n c (icells (intsOf ps))) :
  Calls Tryz.prog 25 #[.slice none 0 0, .agg #[.slice A n c, .int .u64 (g : Int), .int .i64 (q : Int)]] w fun e w' => ∃ A3 n3 c3, e = .returned (.slice A3 n3 c3) ∧ Sl w' 1 A3 n3 c3 (cells (blobB q g ps)) ∧ Below w.heap.size w w' := by
 have hcl := fun W => clone_nil15 W
 have hbw := fun W (hb : Below w.heap.size w W) => below15 A n c (intsOf ps) W (hs.below hb (Nat.le_refl _))
 rw [below_intsOf] at hbw
 have H := qH hs
 have HB := qH hbw
 have HP := qH hp
 have HL := qH hl
 have e1 : IntKind.u64.wrap (q : Int) = (q : Int) := by rw [IntKind.wrap_u64]; omega
 have e2 : IntKind.u64.wrap (n : Int) = (n : Int) := by rw [IntKind.wrap_u64]; omega
 have E2 := qH e2
 have q0 : decide ((q : Int) < 0) = false := by simp
 clear hs hbw hp hl e2
 go_enter Tryz.func25, Tryz.ntmps25
 go_wp2_with fail
 have hba : Below w.heap.size w (w.alloc (.cells #[.slice A n c, .int .u64 (g : Int), .int .i64 (q : Int)] 25)) := (Below.refl _ _).alloc (Nat.le_refl _) _
 have hxa := Bl3.new (w := w) (A := A) (n := n) (c := c) (g := (g : Int)) (z := (q : Int))
 obtain ⟨wa, hwa⟩ : ∃ x, x = w.alloc (.cells #[.slice A n c, .int .u64 (g : Int), .int .i64 (q : Int)] 25) := ⟨_, rfl⟩
 rw [← hwa] at hba hxa ⊢
 clear hwa
 obtain ⟨B, hB⟩ : ∃ B, B = w.heap.size := ⟨_, rfl⟩
 rw [← hB] at hxa ⊢
 have HBB := qH hB
 refine (hcl wa).mono ?_; clear hcl; rintro e w1 ⟨rfl, hw1⟩
 obtain rfl : wa = w1 := hw1.symm
 have hb2 : Below wa.heap.size wa (wa.alloc (.cells #[.slice none 0 0] 49)) := (Below.refl _ _).alloc (Nat.le_refl _) _
 have hx2 := heap_alloc_new wa (.cells #[.slice none 0 0] 49)
 have X2 := qH (hxa.later hb2)
 have B2 := qH (hba.trans (hb2.mono hba.size))
 have HX0 := qH (show B < wa.heap.size from block_lt hxa)
 have AL2 := qH (show Al15 (wa.alloc (.cells #[.slice none 0 0] 49)) wa.heap.size wa.heap.size [] from ⟨⟨none, 0, 0, hx2, .inl ⟨rfl, rfl, rfl, rfl⟩, fun b hb => by obtain ⟨o, hb⟩ := hb; cases hb⟩, Nat.le_refl _, by simp⟩)
 have c0 := X2.out.c0
 have c2 := X2.out.c2
 clear hba hxa hB hb2 hx2
 go_wp2_with fail
 obtain ⟨w2, hw2⟩ : ∃ x, x = wa.alloc (.cells #[.slice none 0 0] 49) := ⟨_, rfl⟩
 rw [← hw2] at X2 B2 AL2 c0 c2 ⊢
 clear hw2
 have h3 := HB.out w2 B2.out
 obtain ⟨X, hX⟩ : ∃ X, X = wa.heap.size := ⟨_, rfl⟩
 rw [← hX] at AL2 HX0 ⊢
 have HWX := qH (show w.heap.size ≤ X from by have := HBB.out; have := HX0.out; omega)
 have HX2 := qH (show X ≤ w2.heap.size from by obtain ⟨A9, n9, c9, h9, _⟩ := AL2.out.ex; have := block_lt h9; omega)
 clear hX
 refine h3.mono ?_; clear h3; rintro e w3 ⟨rfl, hw3⟩
 obtain rfl : w2 = w3 := hw3.symm
 have h4 := put1_any X X q [] (by omega) w2 AL2.out HX2.out (by simp)
 go_wp2_with fail
 refine h4.mono ?_; clear h4; rintro e w4 ⟨rfl, hal, hb⟩
 have AL4 := qH hal
 have X4 := qH (show Bl3 w4 B A n c (g : Int) (q : Int) from (hb.block B HX0.out).trans X2.out)
 have B4 := qH (show Below X w2 w4 from hb)
 have c1 := X4.out.c1
 have hz4 : X ≤ w4.heap.size := by have := hb.size; have := HX2.out; omega
 have h5 := put1_any X X g _ hg w4 AL4.out hz4 (by have := venc_le 9 q; simp; omega)
 clear hal hb X2 AL2 c0 c2
 go_wp2_with fail
 refine h5.mono ?_; clear h5; rintro e w5 ⟨rfl, hal, hb⟩
 have AL5 := qH hal
 have X5 := qH (show Bl3 w5 B A n c (g : Int) (q : Int) from (hb.block B HX0.out).trans X4.out)
 have B5 := qH (show Below X w2 w5 from B4.out.trans hb)
 have c0 := X5.out.c0
 have hz5 : X ≤ w5.heap.size := by have := hb.size; omega
 have e2 := E2.out
 have h6 := put1_any X X n _ (by omega) w5 AL5.out hz5 (by have := venc_le 9 q; have := venc_le 9 g; simp; omega)
 clear hal hb X4 AL4 c1 B4
 go_wp2_with fail
 refine h6.mono ?_; clear h6; rintro e w6 ⟨rfl, hal, hb⟩
 have AL6 := qH hal
 have X6 := qH (show Bl3 w6 B A n c (g : Int) (q : Int) from (hb.block B HX0.out).trans X5.out)
 have B6 := qH (show Below X w2 w6 from B5.out.trans hb)
 have hz6 : X ≤ w6.heap.size := by have := hb.size; omega
 have c0 := X6.out.c0
 clear hal hb X5 AL5 B5 e2
 go_wp2_with fail
 go_loopw [39] (fun iv wr => ∃ i : Nat, i ≤ n ∧ iv = .int .i64 (i : Int) ∧ Al15 wr X X (venc 9 q ++ venc 9 g ++ venc 9 n ++ (ps.take i).flatMap (venc 9)) ∧ Below X w2 wr ∧ ((ps.take i).flatMap (venc 9)).length ≤ i * 10) (fun iv _ => n - (intOf iv).toNat)
 case atStart => exact ⟨0, by omega, rfl, by simpa using AL6.out, B6.out, by simp⟩
 case round =>
  obtain ⟨i, hi, rfl, hal, hb, hln⟩ := hrel
  have AL := qH hal
  have BL := qH hb
  have HZ := qH (show X ≤ wr.heap.size from by have := hb.size; have := HX2.out; omega)
  clear hal hb
  by_cases hlt : i < n
  ·have hii : (i : Int) < (n : Int) := by omega
   have hip : i < ps.length := by rw [HL.out]; exact hlt
   have sl := H.out.below (B2.out.trans (BL.out.mono HWX.out)) (Nat.le_refl _)
   obtain ⟨b1, o1, rfl, hc⟩ := sl.at_ hlt
   have hcell := hc i _ (icells_get (intsOf ps) i (by rw [intsOf_length]; exact hip))
   have hgd : (intsOf ps)[i]'(by rw [intsOf_length]; exact hip) = ((ps.getD i 0 : Nat) : Int) := by
    have := intsOf_at hip
    rw [List.getD_eq_getElem?_getD, List.getElem?_eq_getElem (by rw [intsOf_length]; exact hip)] at this
    exact this
   rw [hgd] at hcell
   have hpx := HP.out _ (getD_mem15 hip)
   have htk : ps.take (i + 1) = ps.take i ++ [ps.getD i 0] := by
    rw [List.take_add_one, List.getD_eq_getElem?_getD, List.getElem?_eq_getElem hip]
    rfl
   obtain ⟨y, hy⟩ : ∃ y, y = ps.getD i 0 := ⟨_, rfl⟩
   rw [← hy] at hcell hpx htk
   have HTK := qH htk
   have e3 : IntKind.u64.wrap (y : Int) = (y : Int) := by rw [IntKind.wrap_u64]; omega
   have h7 := put1_any X X y _ (by omega) wr AL.out HZ.out (by have := venc_le 9 q; have := venc_le 9 g; have := venc_le 9 n; simp only [List.length_append]; omega)
   clear hc hgd hy htk sl c0
   go_wp2_with fail
   refine h7.mono ?_; clear h7; rintro e w8 ⟨rfl, hal, hb⟩
   have AL8 := qH hal
   have B8 := qH (BL.out.trans hb)
   clear hal hb
   go_wp2_with fail
   go_roundw
   case rel =>
    have hv := venc_le 9 y
    refine ⟨i + 1, by omega, by go_num, ?_, B8.out, ?_⟩
    ·rw [HTK.out, List.flatMap_append, ← List.append_assoc]
     simpa using AL8.out
    ·rw [HTK.out, List.flatMap_append, List.length_append, show [y].flatMap (venc 9) = venc 9 y from List.append_nil _]
     omega
   case measure => simp [intOf]; omega
  ·obtain rfl : i = n := by omega
   obtain ⟨A9, n9, c9, hx9, hr9, _⟩ := AL.out.ex
   have q9 := cell_of_one hx9
   have HR9 := qH hr9
   clear hx9 hr9 c0
   go_wp2_with fail
   go_ret
   refine ⟨A9, n9, c9, rfl, ?_, B2.out.trans (BL.out.mono HWX.out)⟩
   have := HR9.out.sl
   rw [List.take_of_length_le (by rw [HL.out]; exact Nat.le_refl _)] at this
   unfold blobB
   rw [HL.out]
   exact this
end Go.Proofs.YthmneinejfbheaaGreatDoor
