/-
  The statement's function ScrollCounts returns true, whatever its arguments. Conditions: drives as 'DrvK' says, stripes as 'StrV' says; both tables read as the row lists them. (Written by gen_eim.py.)
-/
import Derived.Test.YtokbhgbajdomnaaGreatDoorEii
import Derived.Test.YtokbhgbajdomnaaGreatDoorEig
set_option linter.unusedVariables false
set_option maxRecDepth 20000
set_option maxHeartbeats 3200000
namespace Go.Proofs.YtokbhgbajdomnaaGreatDoor
open Go.RowKit Go.Proofs
theorem scs_below (w : World) (a g cn z : Int) : Below w.heap.size w (w.alloc (.cells #[.int .i64 a, .int .u64 g, .int .i64 cn, .int .i64 z] 38)) := (Below.refl _ _).alloc (Nat.le_refl _) _
section
variable {Rep : World → (Nat → Prop) → Nat → Dv → Prop} {Good : Nat → Nat → (Nat → Bool) → Prop}
theorem scrollCounts_any (DK : DrvK Rep) (SV : StrV Rep Good) (hGd : ∀ k n, Good k n (fun _ => true)) (k size a g cn z : Int) (w : World) (bk : -9223372036854775808 ≤ k ∧ k < 9223372036854775808) (bs : -9223372036854775808 ≤ size ∧ size < 9223372036854775808) (hN : Nt w) (hT : Tz w) :
  Calls Tryz.prog 7 #[.int .i64 k, .int .i64 size, .agg #[.int .i64 a, .int .u64 g, .int .i64 cn, .int .i64 z]] w (SaysTrue w) := by
 obtain ⟨bk1, bk2⟩ := bk
 obtain ⟨bs1, bs2⟩ := bs
 have hk := fun W (hb : Below w.heap.size w W) => rolls16_any DK SV (hGd 1 (1 + 1)) W (hN.keep hb) (hT.keep hb)
 have HK := qH hk
 have HN := qH hN
 have HT := qH hT
 have hma := fun W => rmay_any k 1 ⟨bk1, bk2⟩ ⟨by decide, by decide⟩ W
 have hcn := fun W T (hf : Fld W (T + 1) T) => cnew_own (T + 1) T k 1 ⟨bk1, bk2⟩ ⟨by decide, by decide⟩ W hf
 have hbl := qH (scs_below w a g cn z)
 have Za := Sc16.new (w := w) (a := a) (g := g) (c := cn) (z := z)
 clear hk hN hT
 by_cases hm : 1 ≤ k ∧ (1 : Int) ≤ 1 ∧ k + 1 ≤ 255
 case neg =>
  rw [mayB_f hm] at hma
  go_enter Tryz.func7, Tryz.ntmps7
  go_wp2_with fail
  obtain ⟨wa, hwa⟩ : ∃ x, x = w.alloc (.cells #[.int .i64 a, .int .u64 g, .int .i64 cn, .int .i64 z] 38) := ⟨_, rfl⟩
  have Hbl := qH (show Below w.heap.size w wa from hwa ▸ hbl.out)
  have Zb : Sc16 wa w.heap.size a g cn z := hwa ▸ Za
  rw [← hwa]
  clear hwa Za hbl
  obtain ⟨B0, hB0⟩ : ∃ B, B = w.heap.size := ⟨_, rfl⟩
  rw [← hB0] at Zb ⊢
  have hlt := block_lt Zb
  refine (new_any wa).mono ?_; rintro e wb ⟨rfl, hf, hb⟩
  have Bb := qH (Hbl.out.trans (hb.mono Hbl.out.size))
  have Zb2 := qH (Zb.later hb)
  have Fb := qH hf
  obtain ⟨T, hT⟩ : ∃ T, T = wa.heap.size := ⟨_, rfl⟩
  rw [← hT] at Fb ⊢
  have HTB := qH (show w.heap.size ≤ T ∧ B0 < T from by have := Hbl.out.size; omega)
  clear hf hb hB0 hlt Zb hT
  go_wp2_with fail
  refine (hcn wb T Fb.out).mono ?_; clear hcn; rintro e wc ⟨⟨hmb, rfl⟩ | ⟨Kn, M, C, rfl, hM1, rfl, hc, -⟩, -, hf⟩
  all_goals
   have BC := qH (Bb.out.trans (hf.below Bb.out.size (fun b hb => by have hb : b = T := hb; have := HTB.out; omega)))
   have Z0 := qH (show Sc16 wc B0 a g cn z from hf.row_some Zb2.out (fun hb => by have hb : B0 = T := hb; have := HTB.out; omega))
   clear hf Bb Zb2
  ·clear Fb Hbl Z0
   go_wp2_with fail
   refine (hma wc).mono ?_; clear hma; rintro e w4 ⟨rfl, hw4⟩
   obtain rfl : wc = w4 := hw4.symm
   go_wp2_with fail
   refine (HK.out wc BC.out).mono ?_; rintro e w5 ⟨rfl, hb⟩
   have HB := qH (BC.out.trans (hb.mono BC.out.size))
   clear hb
   go_wp2_with fail
   go_ret
   exact ⟨rfl, HB.out⟩
  ·exfalso
   exact hm ⟨by have := hc.k1; omega, by decide, by have := hc.n255; omega⟩
 rw [mayB_t hm] at hma
 go_enter Tryz.func7, Tryz.ntmps7
 go_wp2_with fail
 obtain ⟨wa, hwa⟩ : ∃ x, x = w.alloc (.cells #[.int .i64 a, .int .u64 g, .int .i64 cn, .int .i64 z] 38) := ⟨_, rfl⟩
 have Hbl := qH (show Below w.heap.size w wa from hwa ▸ hbl.out)
 have Zb : Sc16 wa w.heap.size a g cn z := hwa ▸ Za
 rw [← hwa]
 clear hwa Za hbl
 obtain ⟨B0, hB0⟩ : ∃ B, B = w.heap.size := ⟨_, rfl⟩
 rw [← hB0] at Zb ⊢
 have hlt := block_lt Zb
 refine (new_any wa).mono ?_; rintro e wb ⟨rfl, hf, hb⟩
 have Bb := qH (Hbl.out.trans (hb.mono Hbl.out.size))
 have Zb2 := qH (Zb.later hb)
 have Fb := qH hf
 obtain ⟨T, hT⟩ : ∃ T, T = wa.heap.size := ⟨_, rfl⟩
 rw [← hT] at Fb ⊢
 have HTB := qH (show w.heap.size ≤ T ∧ B0 < T from by have := Hbl.out.size; omega)
 clear hf hb hB0 hlt Zb hT
 go_wp2_with fail
 refine (hcn wb T Fb.out).mono ?_; clear hcn; rintro e wc ⟨⟨hmb, rfl⟩ | ⟨Kn, M, C, rfl, hM1, rfl, hc, -⟩, -, hf⟩
 all_goals
  have BC := qH (Bb.out.trans (hf.below Bb.out.size (fun b hb => by have hb : b = T := hb; have := HTB.out; omega)))
  have Z0 := qH (show Sc16 wc B0 a g cn z from hf.row_some Zb2.out (fun hb => by have hb : B0 = T := hb; have := HTB.out; omega))
  clear hf Bb Zb2
 ·exfalso
  rw [mayB_t hm] at hmb
  cases hmb
 have hK1 := hm.1
 have hK2 := hm.2.2
 obtain rfl : (1 : Nat) = M := by omega
 have CC := qH hc
 clear hm hc hM1 Fb bk1 bk2
 by_cases c2 : 1000000 < size
 case pos =>
  go_wp2_with fail
  refine (hma wc).mono ?_; clear hma; rintro e w4 ⟨rfl, hw4⟩
  obtain rfl : wc = w4 := hw4.symm
  go_wp2_with fail
  refine (HK.out wc BC.out).mono ?_; rintro e w5 ⟨rfl, hb⟩
  have HB := qH (BC.out.trans (hb.mono BC.out.size))
  clear hb
  go_wp2_with fail
  go_ret
  exact ⟨rfl, HB.out⟩
 obtain ⟨r, hr⟩ : ∃ r, 44 * Kn = r + 10 := ⟨44 * Kn - 10, by omega⟩
 have HR := qH hr
 have HK1 := qH (show 1 ≤ Kn ∧ Kn ≤ 255 from by omega)
 have hmkA := make_eq 13601 13601 rfl (by decide)
 have hmkB := make_eq 137 137 rfl (by decide)
 clear hr
 go_wp2_with fail
 refine (hma wc).mono ?_; clear hma; rintro e w4 ⟨rfl, hw4⟩
 obtain rfl : wc = w4 := hw4.symm
 go_wp2_with fail
 refine (made15_any DK 1 1 1 4 (by decide) (by decide) (by decide) (by decide) (by decide) (by decide) wc).mono ?_; intro e w1 hm
 obtain ⟨A, S, C1, F1, T1, U, P, rfl, hL, hb, hlo⟩ := Lc15.made hm (Below.refl _ _) (HN.out.keep BC.out)
 have HTa := qH (HT.out.keep BC.out)
 have HLO := qH (show B0 < wc.heap.size ∧ C < wc.heap.size ∧ T + 1 < wc.heap.size ∧ T < wc.heap.size from ⟨block_lt Z0.out, block_lt CC.out.row, World.block_lt_of_cell? wc _ CC.out.fld.cell, CC.out.fld.fld.ltT⟩)
 have L := qH hL
 have sz := qH (size_sc16 0 0 0 0)
 have Z0 := qH (Z0.out.later hb)
 have CC := qH (CC.out.later hb)
 clear hm hL hb hlo
 go_wp2_with fail
 refine (put16_noA DK L.out (.pointer (some ⟨C1, 0, none⟩)) none 0 0).mono ?_; rintro e w2 ⟨rfl, hL, hf⟩
 have Z0 := qH (Z0.out.fr hf (fun x => by have := L.out.ulo _ x; have := HLO.out; omega))
 have CC := qH (CC.out.fr hf (fun x => by have := L.out.ulo _ x; have := HLO.out; omega) (fun x => by have := L.out.ulo _ x; have := HLO.out; omega) (fun x => by have := L.out.ulo _ x; have := HLO.out; omega))
 have L := qH hL
 clear hL hf
 go_wp2_with (refine at_none ?_; refine wpList_store_row (o := ⟨none, _, _, _, _, _⟩) rfl 38 (.tmp 11) (.tmp 53) rfl w2.heap.size #[.int .i64 0, .int .u64 0, .int .i64 0, .int .i64 0] rfl rfl 38 _ (heap_alloc_last _ _) sz.out rfl one_sc16 ?_; rw [World.setRow_alloc_new])
 have hb : Below w2.heap.size w2 (w2.alloc (.cells #[.int .i64 0, .int .u64 0, .int .i64 0, .int .i64 0] 38)) := (Below.refl _ _).alloc (Nat.le_refl _) _
 obtain ⟨w3, hw⟩ : ∃ x, x = (w2.alloc (.cells #[.int .i64 0, .int .u64 0, .int .i64 0, .int .i64 0] 38)) := ⟨_, rfl⟩
 rw [← hw] at hb ⊢
 clear hw
 have L := qH (L.out.later DK hb)
 have Z0 := qH (Z0.out.later hb)
 have CC := qH (CC.out.later hb)
 clear hb
 refine (put16_noC DK L.out none 0 0).mono ?_; rintro e w4 ⟨rfl, hL, hf⟩
 have Z0 := qH (Z0.out.fr hf (fun x => by have := L.out.ulo _ x; have := HLO.out; omega))
 have CC := qH (CC.out.fr hf (fun x => by have := L.out.ulo _ x; have := HLO.out; omega) (fun x => by have := L.out.ulo _ x; have := HLO.out; omega) (fun x => by have := L.out.ulo _ x; have := HLO.out; omega))
 have L := qH hL
 clear hL hf
 go_wp2_with (refine at_none ?_; refine wpList_store_row (o := ⟨none, _, _, _, _, _⟩) rfl 38 (.tmp 14) (.tmp 60) rfl w4.heap.size #[.int .i64 0, .int .u64 0, .int .i64 0, .int .i64 0] rfl rfl 38 _ (heap_alloc_last _ _) sz.out rfl one_sc16 ?_; rw [World.setRow_alloc_new])
 have hb : Below w4.heap.size w4 (w4.alloc (.cells #[.int .i64 0, .int .u64 0, .int .i64 0, .int .i64 0] 38)) := (Below.refl _ _).alloc (Nat.le_refl _) _
 obtain ⟨w5, hw⟩ : ∃ x, x = (w4.alloc (.cells #[.int .i64 0, .int .u64 0, .int .i64 0, .int .i64 0] 38)) := ⟨_, rfl⟩
 rw [← hw] at hb ⊢
 clear hw
 have L := qH (L.out.later DK hb)
 have Z0 := qH (Z0.out.later hb)
 have CC := qH (CC.out.later hb)
 clear hb
 refine (put16_noP (.pointer (some ⟨A, 0, none⟩)) (.pointer (some ⟨C1, 0, none⟩)) none 0 0 w5).mono ?_; rintro e w6 ⟨rfl, hb⟩
 have L := qH (L.out.later DK hb)
 have Z0 := qH (Z0.out.later hb)
 have CC := qH (CC.out.later hb)
 clear hb
 go_wp2_with (refine at_none ?_; refine wpList_store_row (o := ⟨none, _, _, _, _, _⟩) rfl 38 (.tmp 17) (.tmp 67) rfl w6.heap.size #[.int .i64 0, .int .u64 0, .int .i64 0, .int .i64 0] rfl rfl 38 _ (heap_alloc_last _ _) sz.out rfl one_sc16 ?_; rw [World.setRow_alloc_new])
 have hb : Below w6.heap.size w6 ((w6.alloc (.cells #[.int .i64 0, .int .u64 0, .int .i64 0, .int .i64 0] 38)).alloc (.cells (madeCells #[.int .u8 0] 13601) 5)) := ((Below.refl _ _).alloc (Nat.le_refl _) _).alloc (by simp) _
 obtain ⟨w7, hw⟩ : ∃ x, x = ((w6.alloc (.cells #[.int .i64 0, .int .u64 0, .int .i64 0, .int .i64 0] 38)).alloc (.cells (madeCells #[.int .u8 0] 13601) 5)) := ⟨_, rfl⟩
 rw [← hw] at hb ⊢
 clear hw
 have L := qH (L.out.later DK hb)
 have Z0 := qH (Z0.out.later hb)
 have CC := qH (CC.out.later hb)
 clear hb
 clear hmkA
 refine (put16_large DK L.out 34 (by decide) _ 13601 13601 401 (by decide) (by decide) (by decide) (by decide)).mono ?_; rintro e w8 ⟨rfl, hL, hf⟩
 have Z0 := qH (Z0.out.fr hf (fun x => by have := L.out.ulo _ x; have := HLO.out; omega))
 have CC := qH (CC.out.fr hf (fun x => by have := L.out.ulo _ x; have := HLO.out; omega) (fun x => by have := L.out.ulo _ x; have := HLO.out; omega) (fun x => by have := L.out.ulo _ x; have := HLO.out; omega))
 have L := qH hL
 clear hL hf
 have ZN := qH (Z0.out.later (scs_below w8 0 0 0 0))
 go_wp2_with (first
  | (refine at_none ?_; refine wpList_store_row (o := ⟨none, _, _, _, _, _⟩) rfl 38 (.tmp 20) (.tmp 76) rfl w8.heap.size #[.int .i64 0, .int .u64 0, .int .i64 0, .int .i64 0] rfl rfl 38 _ (heap_alloc_last _ _) sz.out rfl one_sc16 ?_; rw [World.setRow_alloc_new])
  | (refine at_dst11 (d := 81) ?_; refine wpList_step11 (o := ⟨some 81, _, _, _, _, _⟩) rfl _ _ (step_sc16 (x := .tmp 5) rfl rfl ZN.out) ?_))
 have hb : Below w8.heap.size w8 (w8.alloc (.cells #[.int .i64 0, .int .u64 0, .int .i64 0, .int .i64 0] 38)) := (Below.refl _ _).alloc (Nat.le_refl _) _
 obtain ⟨w9, hw⟩ : ∃ x, x = (w8.alloc (.cells #[.int .i64 0, .int .u64 0, .int .i64 0, .int .i64 0] 38)) := ⟨_, rfl⟩
 rw [← hw] at hb ⊢
 clear hw
 have L := qH (L.out.later DK hb)
 have Z0 := qH (Z0.out.later hb)
 have CC := qH (CC.out.later hb)
 clear hb
 clear ZN
 refine (get16_noA (.pointer (some ⟨C1, 0, none⟩)) a g cn z w9).mono ?_; rintro e w10 ⟨rfl, hb⟩
 have L := qH (L.out.later DK hb)
 have Z0 := qH (Z0.out.later hb)
 have CC := qH (CC.out.later hb)
 clear hb
 go_wp2_with (refine at_dst11 (d := 88) ?_; refine wpList_step11 (o := ⟨some 88, _, _, _, _, _⟩) rfl _ w10 (step_sc16 (x := .tmp 5) rfl rfl Z0.out) ?_)
 refine (get16_noC DK L.out.lc.ac.a (by rw [L.out.lc.ac.len]; decide) a g cn z).mono ?_; rintro e w11 ⟨rfl, hb⟩
 have L := qH (L.out.later DK hb)
 have Z0 := qH (Z0.out.later hb)
 have CC := qH (CC.out.later hb)
 clear hb
 go_wp2_with fail
 have hb : Below w11.heap.size w11 (w11.alloc (.cells (madeCells #[.int .u8 0] 137) 5)) := (Below.refl _ _).alloc (Nat.le_refl _) _
 obtain ⟨w12, hw⟩ : ∃ x, x = w11.alloc (.cells (madeCells #[.int .u8 0] 137) 5) := ⟨_, rfl⟩
 rw [← hw] at hb ⊢
 clear hw hmkB
 have L := qH (L.out.later DK hb)
 have Z0 := qH (Z0.out.later hb)
 have CC := qH (CC.out.later hb)
 clear hb
 refine (put16_few DK L.out HTa.out 34 (by decide) _ 137 137 5 (by decide) (by decide) (by decide) (by
  have h := least_no15 (n := 4) (m := 5) (f := (newP 1 4).f) (by decide +kernel)
  exact h)).mono ?_; rintro e w13 ⟨rfl, hL, hf⟩
 have Z0 := qH (Z0.out.fr hf (fun x => by have := L.out.ulo _ x; have := HLO.out; omega))
 have CC := qH (CC.out.fr hf (fun x => by have := L.out.ulo _ x; have := HLO.out; omega) (fun x => by have := L.out.ulo _ x; have := HLO.out; omega) (fun x => by have := L.out.ulo _ x; have := HLO.out; omega))
 have L := qH hL
 clear hL hf
 go_wp2_with (refine at_none ?_; refine wpList_store_row (o := ⟨none, _, _, _, _, _⟩) rfl 38 (.tmp 29) (.tmp 99) rfl w13.heap.size #[.int .i64 0, .int .u64 0, .int .i64 0, .int .i64 0] rfl rfl 38 _ (heap_alloc_last _ _) sz.out rfl one_sc16 ?_; rw [World.setRow_alloc_new])
 have hb : Below w13.heap.size w13 (w13.alloc (.cells #[.int .i64 0, .int .u64 0, .int .i64 0, .int .i64 0] 38)) := (Below.refl _ _).alloc (Nat.le_refl _) _
 obtain ⟨w14, hw⟩ : ∃ x, x = (w13.alloc (.cells #[.int .i64 0, .int .u64 0, .int .i64 0, .int .i64 0] 38)) := ⟨_, rfl⟩
 rw [← hw] at hb ⊢
 clear hw
 have L := qH (L.out.later DK hb)
 have Z0 := qH (Z0.out.later hb)
 have CC := qH (CC.out.later hb)
 clear hb
 have h1 := count16 CC.out HR.out size bs1 bs2
 have h2 := fun W => rcount16 Kn r HR.out HK1.out.2 size bs1 bs2 W
 obtain ⟨q, hq⟩ : ∃ q, q = cntZ r size := ⟨_, rfl⟩
 rw [← hq] at h1 h2
 clear hq
 refine h1.mono ?_; clear h1; rintro e w15 ⟨rfl, hb⟩
 have L := qH (L.out.later DK hb)
 have Z0 := qH (Z0.out.later hb)
 have CC := qH (CC.out.later hb)
 clear hb
 go_wp2_with fail
 refine (h2 w15).mono ?_; clear h2; rintro e w16 ⟨rfl, hw⟩
 obtain rfl : w15 = w16 := hw.symm
 go_wp2_with fail
 refine (count16_nil w15 size).mono ?_; rintro e w16 ⟨rfl, hw⟩
 obtain rfl : w15 = w16 := hw.symm
 go_wp2_with fail
 refine (free_any U P (newP 1 4) w15 L.out.pl (L.out.tz HTa.out)).mono ?_; rintro e w17 ⟨rfl, hb⟩
 rw [show (((newP 1 4).n : Int) - (cntL (newP 1 4).n (newP 1 4).f : Int)) = 4 from by decide +kernel]
 have L := qH (L.out.later DK hb)
 have Z0 := qH (Z0.out.later hb)
 have CC := qH (CC.out.later hb)
 clear hb
 go_wp2_with fail
 have BL := qH (BC.out.trans (L.out.lc.bel.mono BC.out.size))
 refine (HK.out _ BL.out).mono ?_; rintro e w18 ⟨rfl, hb⟩
 have BZ := qH (BL.out.trans (hb.mono BL.out.size))
 clear hb
 go_wp2_with fail
 go_ret
 exact ⟨rfl, BZ.out⟩
end
end Go.Proofs.YtokbhgbajdomnaaGreatDoor
