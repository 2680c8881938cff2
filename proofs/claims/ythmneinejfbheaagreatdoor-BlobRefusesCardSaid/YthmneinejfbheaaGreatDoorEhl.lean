/-
  Package blob's Get without an array or a coder; the statement's function BlobRefuses returns true, whatever its arguments. Conditions: drives as 'DrvK' says, values as 'StrV' says; both tables read as the row lists them. (Written by gen_ehl.py.)
-/
import Derived.Test.YthmneinejfbheaaGreatDoorEhk
import Derived.Test.YthmneinejfbheaaGreatDoorEhr
set_option linter.unusedVariables false
set_option maxRecDepth 20000
set_option maxHeartbeats 3200000
namespace Go.Proofs.YthmneinejfbheaaGreatDoor
open Go.RowKit Go.Proofs
section
variable {Rep : World → (Nat → Prop) → Nat → Dv → Prop} {Good : Nat → Nat → (Nat → Bool) → Prop}
theorem get15_noA (v : Value) (AV : Option Addr) (q cV : Nat) (g z : Int) (w : World) :
  Calls Tryz.prog 22 #[.pointer none, v, .agg #[.slice AV q cV, .int .u64 g, .int .i64 z]] w fun e w' => e = .returned (.tuple #[.slice none 0 0, .int .i64 1]) ∧ Below w.heap.size w w' := by
 have hn := fun W => there_noA v W
 have hb : Below w.heap.size w (w.alloc (.cells #[.slice AV q cV, .int .u64 g, .int .i64 z] 25)) := (Below.refl _ _).alloc (Nat.le_refl _) _
 go_enter Tryz.func22, Tryz.ntmps22
 go_wp2_with fail
 refine (hn _).mono ?_; clear hn; rintro e w1 ⟨rfl, rfl⟩
 go_wp2_with fail
 go_ret2
 exact ⟨rfl, hb⟩
theorem get15_noC (DK : DrvK Rep) {w : World} {S : Nat → Prop} {A : Nat} {xs : List Dv} (h : AP Rep w S A xs) (h0 : 0 < xs.length) (AV : Option Addr) (q cV : Nat) (g z : Int) :
  Calls Tryz.prog 22 #[.pointer (some ⟨A, 0, none⟩), .pointer none, .agg #[.slice AV q cV, .int .u64 g, .int .i64 z]] w fun e w' => e = .returned (.tuple #[.slice none 0 0, .int .i64 1]) ∧ Below w.heap.size w w' := by
 have hb : Below w.heap.size w (w.alloc (.cells #[.slice AV q cV, .int .u64 g, .int .i64 z] 25)) := (Below.refl _ _).alloc (Nat.le_refl _) _
 have hn := there_noC (h.later DK.lay hb) h0
 have HB := qH hb
 clear h hb
 go_enter Tryz.func22, Tryz.ntmps22
 go_wp2_with fail
 refine hn.mono ?_; clear hn; rintro e w1 ⟨rfl, rfl⟩
 go_wp2_with fail
 go_ret2
 exact ⟨rfl, HB.out⟩
theorem blobRefuses_any (DK : DrvK Rep) (SV : StrV Rep Good) (hGd : ∀ k n, Good k n (fun _ => true)) (AV : Option Addr) (q cV : Nat) (zs : List Int) (g z n : Int) (w : World) (h : Sl w 1 AV q cV (icells zs)) (bn : -9223372036854775808 ≤ n ∧ n < 9223372036854775808) (hN : Nt w) (hT : Tz w) :
  Calls Tryz.prog 5 #[.agg #[.slice AV q cV, .int .u64 g, .int .i64 z], .int .i64 n] w (SaysTrue w) := by
 obtain ⟨bn1, bn2⟩ := bn
 have SV' := SV
 have hk := fun W (hb : Below w.heap.size w W) => keeps15_any DK SV (hGd 1 (1 + 1)) W (hN.keep hb) (hT.keep hb)
 have HK := qH hk
 have HN := qH hN
 have HT := qH hT
 have HSV := qH (show ∀ bb o, 0 < q → AV = some ⟨bb, o, none⟩ → bb < w.heap.size from fun bb o h0 hA => h.lt (by decide) h0 hA)
 have HS := qH h
 have hbl := qH (bl_below w AV q cV g z)
 have Za := Bl3.new (w := w) (A := AV) (n := q) (c := cV) (g := g) (z := z)
 have c0 := Za.c0
 have hq63 := h.lim
 unfold maxLen at hq63
 clear hk hN hT h
 by_cases c1 : (100 : Int) < (q : Int)
 case pos =>
  clear Za
  go_enter Tryz.func5, Tryz.ntmps5
  go_wp2_with fail
  refine (HK.out _ hbl.out).mono ?_; rintro e w1 ⟨rfl, hb⟩
  have HB := qH (hbl.out.trans (hb.mono hbl.out.size))
  clear hb
  go_wp2_with fail
  go_ret
  exact ⟨rfl, HB.out⟩
 by_cases c2 : n < 401
 case pos =>
  clear Za
  go_enter Tryz.func5, Tryz.ntmps5
  go_wp2_with fail
  refine (HK.out _ hbl.out).mono ?_; rintro e w1 ⟨rfl, hb⟩
  have HB := qH (hbl.out.trans (hb.mono hbl.out.size))
  clear hb
  go_wp2_with fail
  go_ret
  exact ⟨rfl, HB.out⟩
 by_cases c3 : 2000 < n
 case pos =>
  clear Za
  go_enter Tryz.func5, Tryz.ntmps5
  go_wp2_with fail
  refine (HK.out _ hbl.out).mono ?_; rintro e w1 ⟨rfl, hb⟩
  have HB := qH (hbl.out.trans (hb.mono hbl.out.size))
  clear hb
  go_wp2_with fail
  go_ret
  exact ⟨rfl, HB.out⟩
 obtain ⟨M, rfl⟩ : ∃ M : Nat, n = (M : Int) := ⟨n.toNat, by omega⟩
 have hmk := make_eq (M : Int) M rfl (by omega)
 go_enter Tryz.func5, Tryz.ntmps5
 go_wp2_with fail
 have SV := qH (HS.out.below hbl.out (Nat.le_refl _))
 obtain ⟨wa, hwa⟩ : ∃ x, x = w.alloc (.cells #[.slice AV q cV, .int .u64 g, .int .i64 z] 25) := ⟨_, rfl⟩
 have Hbl := qH (show Below w.heap.size w wa from hwa ▸ hbl.out)
 have Zb : Bl3 wa w.heap.size AV q cV g z := hwa ▸ Za
 rw [← hwa] at SV ⊢
 clear hwa Za hbl c0
 obtain ⟨B0, hB0⟩ : ∃ B, B = w.heap.size := ⟨_, rfl⟩
 rw [← hB0] at Zb ⊢
 have Z0 := qH Zb
 have hlt := block_lt Zb
 clear Zb
 refine (made15_any DK 2 1 1 4 (by decide) (by decide) (by decide) (by decide) (by decide) (by decide) wa).mono ?_; intro e w1 hm
 obtain ⟨A, S, C, F, T, U, P, rfl, hL, hb, hlo⟩ := Lc15.made hm (Below.refl _ _) (HN.out.keep Hbl.out)
 have HB0 := qH (show B0 < wa.heap.size from hlt)
 have HSV := qH (show ∀ bb o, 0 < q → AV = some ⟨bb, o, none⟩ → bb < wa.heap.size from fun bb o h0 hA => by have := HSV.out bb o h0 hA; have := Hbl.out.size; omega)
 have HTa := qH (HT.out.keep Hbl.out)
 have L := qH hL
 have sz := qH (size_bl3 (A := none) (n := 0) (c := 0) (g := 0) (z := 0))
 have Z0 := qH (Z0.out.later hb)
 have SV := qH (SV.out.below hb (Nat.le_refl _))
 clear hm hL hb hlo hB0 hlt
 go_wp2_with fail
 refine (put15_noA DK L.out (.pointer (some ⟨C, 0, none⟩)) none 0 0).mono ?_; rintro e w2 ⟨rfl, hL, hf⟩
 have Z0 := qH (show Bl3 w2 B0 AV q cV g z from hf.row_some Z0.out (fun x => by have := L.out.ulo _ x; have := HB0.out; omega))
 have SV := qH (SV.out.fr hf (fun bb o h0 hA x => by have := L.out.ulo _ x; have := HSV.out bb o h0 hA; omega))
 have L := qH hL
 clear hL hf
 go_wp2_with (refine at_none ?_; refine wpList_store_row (o := ⟨none, _, _, _, _, _⟩) rfl 25 (.tmp 8) (.tmp 47) rfl w2.heap.size #[.slice none 0 0, .int .u64 0, .int .i64 0] rfl rfl 25 _ (heap_alloc_last _ _) sz.out rfl one_bl3 ?_; rw [World.setRow_alloc_new])
 have hb : Below w2.heap.size w2 (w2.alloc (.cells #[.slice none 0 0, .int .u64 0, .int .i64 0] 25)) := (Below.refl _ _).alloc (Nat.le_refl _) _
 obtain ⟨w3, hw⟩ : ∃ x, x = w2.alloc (.cells #[.slice none 0 0, .int .u64 0, .int .i64 0] 25) := ⟨_, rfl⟩
 rw [← hw] at hb ⊢
 clear hw
 have L := qH (L.out.later DK hb)
 have Z0 := qH (Z0.out.later hb)
 have SV := qH (SV.out.below hb (Nat.le_refl _))
 clear hb
 refine (put15_noC DK L.out none 0 0).mono ?_; rintro e w4 ⟨rfl, hL, hf⟩
 have Z0 := qH (show Bl3 w4 B0 AV q cV g z from hf.row_some Z0.out (fun x => by have := L.out.ulo _ x; have := HB0.out; omega))
 have SV := qH (SV.out.fr hf (fun bb o h0 hA x => by have := L.out.ulo _ x; have := HSV.out bb o h0 hA; omega))
 have L := qH hL
 clear hL hf
 go_wp2_with (refine at_none ?_; refine wpList_store_row (o := ⟨none, _, _, _, _, _⟩) rfl 25 (.tmp 10) (.tmp 53) rfl w4.heap.size #[.slice none 0 0, .int .u64 0, .int .i64 0] rfl rfl 25 _ (heap_alloc_last _ _) sz.out rfl one_bl3 ?_; rw [World.setRow_alloc_new])
 have hb : Below w4.heap.size w4 (w4.alloc (.cells #[.slice none 0 0, .int .u64 0, .int .i64 0] 25)) := (Below.refl _ _).alloc (Nat.le_refl _) _
 obtain ⟨w5, hw⟩ : ∃ x, x = w4.alloc (.cells #[.slice none 0 0, .int .u64 0, .int .i64 0] 25) := ⟨_, rfl⟩
 rw [← hw] at hb ⊢
 clear hw
 have L := qH (L.out.later DK hb)
 have Z0 := qH (Z0.out.later hb)
 have SV := qH (SV.out.below hb (Nat.le_refl _))
 clear hb
 refine (put15_noP (.pointer (some ⟨A, 0, none⟩)) (.pointer (some ⟨C, 0, none⟩)) none 0 0 w5).mono ?_; rintro e w6 ⟨rfl, hb⟩
 have L := qH (L.out.later DK hb)
 have Z0 := qH (Z0.out.later hb)
 have SV := qH (SV.out.below hb (Nat.le_refl _))
 clear hb
 go_wp2_with (refine at_none ?_; refine wpList_store_row (o := ⟨none, _, _, _, _, _⟩) rfl 25 (.tmp 12) (.tmp 59) rfl w6.heap.size #[.slice none 0 0, .int .u64 0, .int .i64 0] rfl rfl 25 _ (heap_alloc_last _ _) sz.out rfl one_bl3 ?_; rw [World.setRow_alloc_new])
 have hb1 : Below w6.heap.size w6 (w6.alloc (.cells #[.slice none 0 0, .int .u64 0, .int .i64 0] 25)) := (Below.refl _ _).alloc (Nat.le_refl _) _
 have hb : Below w6.heap.size w6 ((w6.alloc (.cells #[.slice none 0 0, .int .u64 0, .int .i64 0] 25)).alloc (.cells (madeCells #[.int .u8 0] M) 5)) := hb1.alloc hb1.size _
 obtain ⟨w7, hw⟩ : ∃ x, x = (w6.alloc (.cells #[.slice none 0 0, .int .u64 0, .int .i64 0] 25)).alloc (.cells (madeCells #[.int .u8 0] M) 5) := ⟨_, rfl⟩
 rw [← hw] at hb ⊢
 clear hw hb1 hmk
 have L := qH (L.out.later DK hb)
 have Z0 := qH (Z0.out.later hb)
 have SV := qH (SV.out.below hb (Nat.le_refl _))
 clear hb
 refine (put15_large DK L.out _ M M (by omega)).mono ?_; rintro e w8 ⟨rfl, hL, hf⟩
 have Z0 := qH (show Bl3 w8 B0 AV q cV g z from hf.row_some Z0.out (fun x => by have := L.out.ulo _ x; have := HB0.out; omega))
 have SV := qH (SV.out.fr hf (fun bb o h0 hA x => by have := L.out.ulo _ x; have := HSV.out bb o h0 hA; omega))
 have L := qH hL
 clear hL hf
 go_wp2_with (first
  | (refine at_none ?_; refine wpList_store_row (o := ⟨none, _, _, _, _, _⟩) rfl 25 (.tmp 14) (.tmp 68) rfl w8.heap.size #[.slice none 0 0, .int .u64 0, .int .i64 0] rfl rfl 25 _ (heap_alloc_last _ _) sz.out rfl one_bl3 ?_; rw [World.setRow_alloc_new])
  | (refine at_dst11 (d := 72) ?_; refine wpList_step11 (o := ⟨some 72, _, _, _, _, _⟩) rfl _ _ (step_bl3 (x := .tmp 2) rfl rfl (Z0.out.later (bl_below _ _ _ _ _ _))) ?_))
 have hb : Below w8.heap.size w8 (w8.alloc (.cells #[.slice none 0 0, .int .u64 0, .int .i64 0] 25)) := (Below.refl _ _).alloc (Nat.le_refl _) _
 obtain ⟨w9, hw⟩ : ∃ x, x = w8.alloc (.cells #[.slice none 0 0, .int .u64 0, .int .i64 0] 25) := ⟨_, rfl⟩
 rw [← hw] at hb ⊢
 clear hw
 have L := qH (L.out.later DK hb)
 have Z0 := qH (Z0.out.later hb)
 have SV := qH (SV.out.below hb (Nat.le_refl _))
 clear hb
 refine (get15_noA (.pointer (some ⟨C, 0, none⟩)) AV q cV g z w9).mono ?_; rintro e w10 ⟨rfl, hb⟩
 have L := qH (L.out.later DK hb)
 have Z0 := qH (Z0.out.later hb)
 have SV := qH (SV.out.below hb (Nat.le_refl _))
 clear hb
 go_wp2_with (refine at_dst11 (d := 78) ?_; refine wpList_step11 (o := ⟨some 78, _, _, _, _, _⟩) rfl _ w10 (step_bl3 (x := .tmp 2) rfl rfl Z0.out) ?_)
 refine (get15_noC DK L.out.lc.ac.a (by rw [L.out.lc.ac.len]; decide) AV q cV g z).mono ?_; rintro e w11 ⟨rfl, hb⟩
 have L := qH (L.out.later DK hb)
 have Z0 := qH (Z0.out.later hb)
 have SV := qH (SV.out.below hb (Nat.le_refl _))
 clear hb
 go_wp2_with fail
 have hp := put15_yes (c := 0) DK SV' L.out HTa.out [] none 0 0 0 [] rfl (by decide) (Sl.nil w11 1 0 (by decide)) (fun bb o h0 _ => absurd h0 (Nat.lt_irrefl _)) rfl (by decide +kernel) (by
  have h := least_yes15 (n := 4) (m := 0) (f := (newP 1 4).f) (by decide +kernel)
  rw [show leastD 4 (newP 1 4).f ((0 : Nat) : Int) = [] from by decide +kernel] at h
  exact h) (by decide) (by decide) (by decide) Idle.new.wl0 (by decide)
 unfold RetPut15 at hp
 refine hp.mono ?_; clear hp; rintro e w12 ⟨bb, S3, rfl, hrb, hbb, hnb, hL, hf, hS3⟩
 have R := qH (show Rw w12 bb 3 1 0 0 [] from hrb)
 have L := qH (show Lc15 Rep wa w12 S3 A C 2 1 F T 5 (List.replicate (2 + 1) (Dv.new 5)) U P (takenP (newP 1 4) [] 0) from hL)
 have sz := qH (size_bl3 (A := some ⟨bb, 0, none⟩) (n := 0) (c := 0) (g := 0) (z := 0))
 clear hrb hbb hnb hL hf hS3 Z0 SV
 go_wp2_with (first
  | (refine at_none ?_; refine wpList_store_row (o := ⟨none, _, _, _, _, _⟩) rfl 25 (.tmp 20) (.tmp 87) rfl w12.heap.size #[.slice (some ⟨bb, 0, none⟩) 0 0, .int .u64 0, .int .i64 0] rfl rfl 25 _ (heap_alloc_last _ _) sz.out rfl one_bl3 ?_; rw [World.setRow_alloc_new])
  | (refine at_dst11 (d := 92) ?_; refine wpList_step11 (o := ⟨some 92, _, _, _, _, _⟩) rfl _ _ (step_bl3 (x := .tmp 20) rfl rfl Bl3.new) ?_))
 have hb := bl_below w12 (some ⟨bb, 0, none⟩) 0 0 0 0
 have hy := Bl3.new (w := w12) (A := some ⟨bb, 0, none⟩) (n := 0) (c := 0) (g := 0) (z := 0)
 obtain ⟨w13, hw⟩ : ∃ x, x = w12.alloc (.cells #[.slice (some ⟨bb, 0, none⟩) 0 0, .int .u64 0, .int .i64 0] 25) := ⟨_, rfl⟩
 rw [← hw] at hb hy ⊢
 clear hw
 have L := qH (L.out.later DK hb)
 have R := qH (R.out.later hb)
 have Y := qH hy
 clear hb hy
 have hgt := get15_yes DK SV' L.out.lc.ac [] 0 [] 0 0 0 (some ⟨bb, 0, none⟩) (fun _ => true) rfl (by decide) rfl rfl ⟨by decide, by decide, by decide, fun i hi => absurd hi (Nat.not_lt_zero i), by decide, fun i j _ hj => absurd hj (Nat.not_lt_zero j)⟩ (fun i hi => absurd hi (Nat.not_lt_zero i)) (hGd 2 (2 + 1)) R.out.sl
 unfold RetGet15 at hgt
 refine hgt.mono ?_; clear hgt; rintro e w14 ⟨A5, c5, rfl, hs5, hb, -⟩
 have L := qH (L.out.later DK hb)
 have k0 := (Y.out.later hb).c0
 have hfr := free_any U P (takenP (newP 1 4) [] 0) w14 L.out.pl (L.out.tz HTa.out)
 rw [show ((takenP (newP 1 4) [] 0).n : Int) - (cntL (takenP (newP 1 4) [] 0).n (takenP (newP 1 4) [] 0).f : Int) = 4 from by decide +kernel] at hfr
 clear hs5 hb R Y
 go_wp2_with fail
 refine hfr.mono ?_; clear hfr; rintro e w15 ⟨rfl, hb⟩
 have L := qH (L.out.later DK hb)
 clear hb k0
 go_wp2_with fail
 have hbz := Hbl.out.trans (L.out.lc.bel.mono Hbl.out.size)
 have HBZ := qH hbz
 refine (HK.out w15 hbz).mono ?_; rintro e w16 ⟨rfl, hb⟩
 have HB := qH (HBZ.out.trans (hb.mono HBZ.out.size))
 clear hb hbz
 go_wp2_with fail
 go_ret
 exact ⟨rfl, HB.out⟩
end
end Go.Proofs.YthmneinejfbheaaGreatDoor
