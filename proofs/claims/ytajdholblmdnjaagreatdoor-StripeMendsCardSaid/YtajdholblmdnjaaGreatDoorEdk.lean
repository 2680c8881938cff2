/-
  The contract of package stripe's Mend; all of package stripe's contracts together ('strK'). Condition: the array and the coder are ones that New made; what the drives read at the place is a stripe's, k of it good. (Written by gen_edk.py.)
-/
import Derived.Test.YtajdholblmdnjaaGreatDoorEdi
set_option linter.unusedVariables false
set_option maxRecDepth 100000
set_option maxHeartbeats 3200000
namespace Go.Proofs.YtajdholblmdnjaaGreatDoor
section
open Go.RowKit Go.Proofs
def secM (k n : Nat) (kd : UInt8) (p g : Nat) (b : List UInt8) (G : Nat → Bool) (i : Nat) : List UInt8 := if G (homeN n p i) = true then [] else secs13 k kd p g b i
section
variable {Rep : World → (Nat → Prop) → Nat → Dv → Prop} {w : World} {S : Nat → Prop} {A C k m F T N p g n R : Nat} {kd : UInt8} {xs : List Dv} {b : List UInt8} {G : Nat → Bool}
theorem secM_len (hk : 1 ≤ k) (hr : RefOk kd p g b.length (44 * k)) (i : Nat) : (secM k n kd p g b G i).length = 0 ∨ (secM k n kd p g b G i).length = 64 := by
 unfold secM
 split
 ·exact .inl rfl
 ·exact .inr (secs13_len hk hr)
theorem mend_all13 (hl : xs.length = n) (hx : ∀ (d : Nat) (x : Dv), xs[d]? = some x → x.Ok ∧ x.n = N) (hp : p < N) (hk : 1 ≤ k) (hr : RefOk kd p g b.length (44 * k)) :
  putN xs (rowW n p (secM k n kd p g b G) n) (p : Int) n = cntG n (fun d => !G d && liveG xs d) ∧ putS xs (rowW n p (secM k n kd p g b G) n) (p : Int) n = upTo (fun d x => if G d = true then x else x.write (p : Int) (sec13 k n kd p g b d)) xs n := by
 constructor
 ·rw [putN_rows hl hx hp (secM_len hk hr) n (Nat.le_refl _)]
  unfold cntG
  refine List.countP_congr fun d hd => ?_
  unfold secM
  rw [home_idx (List.mem_range.1 hd)]
  cases hG : G d
  ·rw [if_neg (by simp), secs13_len hk hr]; simp
  ·rw [if_pos rfl]; simp
 ·unfold putS
  refine upTo_congr13 fun d x hd _ => ?_
  unfold putF
  rw [rowW_getD hd]
  unfold secM
  rw [home_idx hd]
  cases hG : G d
  ·rw [show (if (false : Bool) = true then ([] : List UInt8) else secs13 k kd p g b (idxN n p d)) = secs13 k kd p g b (idxN n p d) from if_neg (by decide), secs13_len hk hr, if_pos (by decide)]
   rfl
  ·rw [if_pos rfl, if_neg (by decide), if_pos rfl]
end
theorem enters_mending : ∀ args w, (callFunc 51 args).run Tryz.prog w = .ok (.enter 51 args) w := enters_of Tryz.func51 (by kernel_rfl) rfl
section
variable {w : World} {bM M c i b1 b2 b3 bF : Nat} {f : Nat → Option Sh} {s : Sh}
theorem mending_yes (h : Mv w M c f) (hM : w.cell? ⟨bM, 0, none⟩ = some (.map (some M))) (hi : i < 9223372036854775808) (hf : f i = some s) :
  Calls Tryz.prog 51 #[.int .i64 (i : Int), .pointer (some ⟨bM, 0, none⟩), .pointer (some ⟨bF, 0, none⟩)] w fun e w' => e = .returned (.slice none 0 0) ∧ Below w.heap.size w w' := by
 have hzv := zero_shard
 have hlk := h.look i hi
 rw [hf] at hlk
 have hlk : (Instr.lookup 79 (.map (some M)) (.int .i64 (i : Int)) true).run Tryz.prog w = .ok (.tuple #[.agg s.cs.toArray, .bool true]) w := hlk
 clear h hf
 obtain ⟨w9, hw9⟩ : ∃ w9, w9 = w.alloc (.cells s.cs.toArray 97) := ⟨_, rfl⟩
 have hb9 : Below w.heap.size w w9 := by rw [hw9]; exact (Below.refl _ _).alloc (Nat.le_refl _) _
 have B9 := Lib.hid hb9
 have Hw9 := Lib.hid hw9
 clear hw9 hb9
 go_enter Tryz.func51, Tryz.ntmps51
 go_wp2_with (first
  | (refine at_none11 ?_; refine wpList_store_shard (o := ⟨none, _, _, _, _, _⟩) rfl (.tmp 5) (.tmp 11) rfl w s rfl rfl ?_; rw [← Hw9.out]))
 go_ret
 exact ⟨rfl, B9.out⟩
theorem mending_no (h : Mv w M c f) (hM : w.cell? ⟨bM, 0, none⟩ = some (.map (some M))) (hF : w.heap[bF]? = some (.cells #[.func (.func 65) #[] #[.pointer (some ⟨b1, 0, none⟩), .pointer (some ⟨b3, 0, none⟩), .pointer (some ⟨b2, 0, none⟩)]] 70 (0, 0))) (hi : i < 9223372036854775808) (hf : f i = none) {l : List UInt8}
  (ht : ∀ u, Below w.heap.size w u → Calls Tryz.prog 65 #[.int .i64 (i : Int), .pointer (some ⟨b1, 0, none⟩), .pointer (some ⟨b3, 0, none⟩), .pointer (some ⟨b2, 0, none⟩)] u fun e w' => ∃ A', e = .returned (.slice A' 64 64) ∧ Sl w' 1 A' 64 64 (cells l) ∧ Below u.heap.size u w' ∧ ∀ b o, A' = some ⟨b, o, none⟩ → u.heap.size ≤ b) :
  Calls Tryz.prog 51 #[.int .i64 (i : Int), .pointer (some ⟨bM, 0, none⟩), .pointer (some ⟨bF, 0, none⟩)] w fun e w' => ∃ A', e = .returned (.slice A' 64 64) ∧ Sl w' 1 A' 64 64 (cells l) ∧ Below w.heap.size w w' ∧ ∀ b o, A' = some ⟨b, o, none⟩ → w.heap.size ≤ b := by
 have hzv := zero_shard
 have eg := enters_making
 have hlk := h.look i hi
 rw [hf] at hlk
 have hlk : (Instr.lookup 79 (.map (some M)) (.int .i64 (i : Int)) true).run Tryz.prog w = .ok (.tuple #[.agg (Sh.cs Sh.zero).toArray, .bool false]) w := hlk
 clear h hf
 obtain ⟨w9, hw9⟩ : ∃ w9, w9 = w.alloc (.cells (Sh.cs Sh.zero).toArray 97) := ⟨_, rfl⟩
 have hb9 : Below w.heap.size w w9 := by rw [hw9]; exact (Below.refl _ _).alloc (Nat.le_refl _) _
 have hcf : w9.cell? ⟨bF, 0, none⟩ = some (.func (.func 65) #[] #[.pointer (some ⟨b1, 0, none⟩), .pointer (some ⟨b3, 0, none⟩), .pointer (some ⟨b2, 0, none⟩)]) := by
  rw [cell_of_row _ _ _ _ _ _ ((hb9.block _ (block_lt hF)).trans hF)]; rfl
 have hh := ht w9 hb9
 have HH := Lib.hid hh
 have B9 := Lib.hid hb9
 have Hw9 := Lib.hid hw9
 clear hw9 hb9 hF ht hh
 go_enter Tryz.func51, Tryz.ntmps51
 go_wp2_with (first
  | (refine at_none11 ?_; refine wpList_store_shard (o := ⟨none, _, _, _, _, _⟩) rfl (.tmp 5) (.tmp 11) rfl w Sh.zero rfl rfl ?_; rw [← Hw9.out]))
 refine HH.out.mono ?_; rintro e w2 ⟨A', rfl, h1, h2, h3⟩
 have R2 := Lib.hid (show Sl w2 1 A' 64 64 (cells l) ∧ Below w.heap.size w w2 ∧ ∀ b o, A' = some ⟨b, o, none⟩ → w.heap.size ≤ b from ⟨h1, B9.out.trans (h2.mono B9.out.size), fun b o e => by have := h3 b o e; have := B9.out.size; omega⟩)
 clear h1 h2 h3
 go_wp2_with fail
 go_ret
 exact ⟨A', rfl, R2.out⟩
end
section
variable {Rep : World → (Nat → Prop) → Nat → Dv → Prop} {w : World} {S : Nat → Prop} {A C k m F T N p g n R : Nat} {kd : UInt8} {xs : List Dv} {b : List UInt8} {G : Nat → Bool}
theorem stmend_any (DK : DrvK Rep) (hn : n = k + m) (hR : R = 44 * k) (h : Ac13 Rep w S A C k m F T N xs) (hr : RefOk kd p g b.length (44 * k)) (hp : p < N) (hs : Str xs k (k + m) N kd p g b G) (hG : k ≤ cntG n G) :
  Calls Tryz.prog 19 #[.pointer (some ⟨A, 0, none⟩), .pointer (some ⟨C, 0, none⟩), .agg #[.int .u8 (kd.toNat : Int), .int .i64 (p : Int), .int .u64 (g : Int)]] w fun e w' => e = .returned (.tuple #[.int .i64 (cntG n (fun d => !G d && liveG xs d) : Nat), .int .i64 0]) ∧ MutA Rep S A (upTo (fun d x => if G d = true then x else x.write (p : Int) (sec13 k n kd p g b d)) xs n) w w' := by
 have hk1 := h.c.k1
 have hq2 : n ≤ 255 := by have := h.c.n255; omega
 have hq1 : 1 ≤ n := by omega
 have hp16 : p < 65536 := hr.p
 have hR16 : R < 65536 := by rw [hR]; exact hr.R
 have hb16 : b.length ≤ R := by rw [hR]; exact hr.z
 have AC := Lib.hid h
 have HRo := Lib.hid hr
 have Hp := Lib.hid hp
 have Hn := Lib.hid hn
 have HR := Lib.hid hR
 have HK1 := Lib.hid hk1
 clear h hr hp hn hR hk1
 have HS := Lib.hid hs
 have HG := Lib.hid hG
 clear hs hG
 obtain ⟨c, hc⟩ : ∃ c, c = cntG n G := ⟨_, rfl⟩
 have Hc := Lib.hid hc
 have hck : ¬ (c : Int) < (k : Int) := by have := HG.out; omega
 clear hc
 have hzv := zero_st13
 go_enter Tryz.func19, Tryz.ntmps19
 go_wp2_with (first
  | (refine at_dst11 (d := 17) ?_; refine wpList_step11 (o := ⟨some 17, _, _, _, _, _⟩) rfl _ _ (step_ref13 (x := .tmp 5) rfl rfl (heap_alloc_new w _)) ?_)
  | (refine at_dst11 (d := 18) ?_; refine wpList_step11 (o := ⟨some 18, _, _, _, _, _⟩) rfl _ _ (step_buildSt13 (x := .tmp 15) (y := .tmp 16) (z := .tmp 17) rfl rfl rfl rfl) ?_))
 have hnew : StB ((w.alloc (.cells #[.int .u8 (kd.toNat : Int), .int .i64 (p : Int), .int .u64 (g : Int)] 34)).alloc (.cells #[.pointer (some ⟨A, 0, none⟩), .pointer (some ⟨C, 0, none⟩), .int .u8 (kd.toNat : Int), .int .i64 (p : Int), .int .u64 (g : Int)] 63)) (w.heap.size + 1) A C kd p g := by
  have := heap_alloc_new (w.alloc (.cells #[.int .u8 (kd.toNat : Int), .int .i64 (p : Int), .int .u64 (g : Int)] 34)) (.cells #[.pointer (some ⟨A, 0, none⟩), .pointer (some ⟨C, 0, none⟩), .int .u8 (kd.toNat : Int), .int .i64 (p : Int), .int .u64 (g : Int)] 63)
  rw [show (w.alloc (.cells #[.int .u8 (kd.toNat : Int), .int .i64 (p : Int), .int .u64 (g : Int)] 34)).heap.size = w.heap.size + 1 from by simp] at this
  exact this
 have hb1 : Below w.heap.size w ((w.alloc (.cells #[.int .u8 (kd.toNat : Int), .int .i64 (p : Int), .int .u64 (g : Int)] 34)).alloc (.cells #[.pointer (some ⟨A, 0, none⟩), .pointer (some ⟨C, 0, none⟩), .int .u8 (kd.toNat : Int), .int .i64 (p : Int), .int .u64 (g : Int)] 63)) := ((Below.refl _ _).alloc (Nat.le_refl _) _).alloc (by simp) _
 obtain ⟨w1, hw1⟩ : ∃ x, x = ((w.alloc (.cells #[.int .u8 (kd.toNat : Int), .int .i64 (p : Int), .int .u64 (g : Int)] 34)).alloc (.cells #[.pointer (some ⟨A, 0, none⟩), .pointer (some ⟨C, 0, none⟩), .int .u8 (kd.toNat : Int), .int .i64 (p : Int), .int .u64 (g : Int)] 63)) := ⟨_, rfl⟩
 rw [← hw1] at hnew hb1 ⊢
 obtain ⟨B, hB⟩ : ∃ B, B = w.heap.size + 1 := ⟨_, rfl⟩
 rw [← hB] at hnew ⊢
 have HB := Lib.hid (show w.heap.size ≤ B by omega)
 have Hs1 := Lib.hid hnew
 have B1 := Lib.hid hb1
 clear hw1 hnew hb1 hB hzv
 refine (fault_any DK (AC.out.later DK B1.out) HRo.out.k1 HRo.out.k4 Hp.out).mono ?_; rintro e w2 ⟨rfl, hb2⟩
 have B2 := Lib.hid (B1.out.trans (hb2.mono B1.out.size))
 have Hs2 := Lib.hid (Hs1.out.later hb2)
 clear hb2
 have hwh := whole_any DK (AC.out.later DK B2.out) HRo.out Hp.out HS.out
 rw [← Hn.out] at hwh
 go_wp2_with (first
  | (refine at_dst11 (d := 25) ?_; refine wpList_step11 (o := ⟨some 25, _, _, _, _, _⟩) rfl _ w2 (step_st13 (x := .tmp 8) rfl rfl Hs2.out) ?_))
 refine hwh.mono ?_; clear hwh; rintro e w3 ⟨M, z, rfl, hmv, hzb, hz, hM, hb3⟩
 have B3 := Lib.hid (B2.out.trans (hb3.mono B2.out.size))
 have MV := Lib.hid hmv
 have HZ := Lib.hid hzb
 have HM := Lib.hid (show w2.heap.size ≤ M ∧ M < w3.heap.size from ⟨hM, hmv.lt⟩)
 have Hs3 := Lib.hid (Hs2.out.later hb3)
 have hzz : z = b.length := hzb (by have := HG.out; have := HK1.out; omega)
 obtain ⟨nb, hnb⟩ : ∃ nb, nb = b.length := ⟨_, rfl⟩
 obtain rfl : z = nb := hzz.trans hnb.symm
 have HNB := Lib.hid hnb
 have hln0 := (hmv.later ((Below.refl w3.heap.size w3).alloc (Nat.le_refl _) (.cells #[.map (some M)] 79))).len 3
 rw [← Hc.out] at hln0
 clear hb3 hmv hzb hM hzz hnb
 go_wp2_with fail
 have hb4 : Below w3.heap.size w3 (w3.alloc (.cells #[.map (some M)] 79)) := (Below.refl _ _).alloc (Nat.le_refl _) _
 have hbm := heap_alloc_new w3 (.cells #[.map (some M)] 79)
 obtain ⟨w4, hw4⟩ : ∃ x, x = w3.alloc (.cells #[.map (some M)] 79) := ⟨_, rfl⟩
 rw [← hw4] at hb4 hbm hln0 ⊢
 obtain ⟨bM, hbM⟩ : ∃ bM, bM = w3.heap.size := ⟨_, rfl⟩
 rw [← hbM] at hbm ⊢
 have B4 := Lib.hid (B3.out.trans (hb4.mono B3.out.size))
 have MV4 := Lib.hid (MV.out.later hb4)
 have Hs4 := Lib.hid (Hs3.out.later hb4)
 have HBm := Lib.hid hbm
 have HbM := Lib.hid (show w.heap.size ≤ bM from by have := B3.out.size; omega)
 clear hb4 hbm hw4 hbM
 refine (ck_any C k m F T w4 (AC.out.c.later B4.out)).mono ?_; rintro e w9 ⟨rfl, hw9⟩
 obtain rfl : w4 = w9 := hw9.symm
 clear hw9
 go_wp2_with fail
 clear hln0 hck
 refine wp_region_held_drew (S := fun w' => Fr (fun _ => False) w4.drew w') (by kernel_rfl) (Fr.refl _ _) (fun hHeld => ?_)
 clear hHeld
 refine tL (i := 0) (d := some 35) (v := ?vm0) rfl ?ym0 (Fr.refl _ _) ?rm0
 case ym0 =>
  intro wq hSw
  (try dsimp only at hSw)
  go_simp <;> with_reducible rfl
 try simp only [Act.put,sA,sB,sC]
 refine tL (i := 1) (d := some 36) (v := ?vm1) rfl ?ym1 (Fr.refl _ _) ?rm1
 case ym1 =>
  intro wq hSw
  (try dsimp only at hSw)
  have hq := hSw.cell_some (show w4.drew.cell? ⟨bM, 0, none⟩ = some (.map (some M)) from by rw [cell_of_row _ _ _ _ _ _ (show w4.drew.heap[bM]? = _ from HBm.out)]; rfl) (fun h => h)
  go_simp <;> with_reducible rfl
 try simp only [Act.put,sA,sB,sC]
 refine tL (i := 2) (d := some 37) (v := ?vm2) rfl ?ym2 (Fr.refl _ _) ?rm2
 case ym2 =>
  intro wq hSw
  (try dsimp only at hSw)
  go_simp <;> with_reducible rfl
 try simp only [Act.put,sA,sB,sC]
 refine rW (i := 3) (d := some 38) rfl fun K hK => ?_
 go_simp
 refine (cn13 (AC.out.c.later (B4.out.trans ((Below.drew (Below.refl w4.heap.size w4)).mono B4.out.size))) Hn.out).mono ?_; rintro e w5 ⟨rfl, hb5⟩
 have hbb : Below w4.heap.size w4 w5 := (Below.drew (Below.refl w4.heap.size w4)).trans hb5
 have hfr : Fr (fun _ => False) w4.drew w5 := Fr.of_below hb5
 have B5 := Lib.hid (B4.out.trans (hbb.mono B4.out.size))
 have MV5 := Lib.hid (MV4.out.later hbb)
 have Hs5 := Lib.hid (Hs4.out.later hbb)
 have HBm5 := Lib.hid ((hbb.block _ (block_lt HBm.out)).trans HBm.out)
 clear hb5 hbb
 go_wp2_with fail
 refine hK.out _ _ hfr (fun hHeld => ?_)
 clear hK K hHeld
 try simp only [Act.put,sA,sB,sC]
 refine wpAnyH_re (S' := fun w' => Fr (fun _ => False) w5 w') (fun w' h => hfr.trans h) ?_
 clear hfr
 refine rW (i := 4) (d := some 39) rfl fun K hK => ?_
 go_simp
 refine (bodies_any MV5.out hq2 (mapF_ok HRo.out HK1.out)).mono ?_; rintro e w6 ⟨A6, rfl, hgr, hb6⟩
 have hfr : Fr (fun _ => False) w5 w6 := Fr.of_below hb6
 rw [mapF_got] at hgr
 have B6 := Lib.hid (B5.out.trans (hb6.mono B5.out.size))
 have MV6 := Lib.hid (MV5.out.later hb6)
 have Hs6 := Lib.hid (Hs5.out.later hb6)
 have HBm6 := Lib.hid ((hb6.block _ (block_lt HBm5.out)).trans HBm5.out)
 have GR := Lib.hid hgr
 clear hb6 hgr
 go_wp2_with fail
 refine hK.out _ _ hfr (fun hHeld => ?_)
 clear hK K hHeld
 try simp only [Act.put,sA,sB,sC]
 refine wpAnyH_re (S' := fun w' => Fr (fun _ => False) w6 w') (fun w' h => hfr.trans h) ?_
 clear hfr
 refine rW (i := 5) (d := some 40) rfl fun K hK => ?_
 go_simp
 have hdd := dall_ok C k m F T A6 n n (got k n p b G) w6 (AC.out.c.later B6.out) GR.out (fun r q => Nat.le_trans (got_rows HK1.out r q) (by decide)) (by omega)
 have hrt : rightX k m (got k n p b G) = 0 := by
  rw [Hn.out]
  exact got_right HK1.out (by rw [← Hn.out]; exact HG.out)
 have hdd2 : Calls Tryz.prog 50 #[.pointer (some ⟨C, 0, none⟩), .slice A6 n n] w6 fun e w' => ∃ A' c', e = .returned (.tuple #[.slice A' n c', .int .i64 0]) ∧ Gr w' A' n c' (allL k (cutL b 44 k) n) ∧ Below w6.heap.size w6 w' := by
  refine hdd.mono ?_
  rintro e w7 ⟨⟨hx, rfl⟩ | ⟨_, A7, c7, X, hX, rfl, hG7⟩, hb7⟩
  ·exact absurd hrt hx
  ·have hdt : dataL k ((got k n p b G).getD ((thereL (got k n p b G) n).getD 0 0) []).length (solD k X (got k n p b G) ((thereL (got k n p b G) n).take k)) = cutL b 44 k := by
    rw [Hn.out] at hX ⊢
    exact got_data HK1.out (by rw [← Hn.out]; exact HG.out) hX
   rw [hdt, ← Hn.out, got_all] at hG7
   exact ⟨A7, c7, by rw [Hn.out], hG7, hb7⟩
 clear hdd hrt
 refine hdd2.mono ?_; clear hdd2; rintro e w7 ⟨A7, c7, rfl, hgr7, hb7⟩
 have hfr : Fr (fun _ => False) w6 w7 := Fr.of_below hb7
 have B7 := Lib.hid (B6.out.trans (hb7.mono B6.out.size))
 have MV7 := Lib.hid (MV6.out.later hb7)
 have Hs7 := Lib.hid (Hs6.out.later hb7)
 have HBm7 := Lib.hid ((hb7.block _ (block_lt HBm6.out)).trans HBm6.out)
 have GR7 := Lib.hid hgr7
 clear hb7 hgr7
 go_wp2_with fail
 refine hK.out _ _ hfr (fun hHeld => ?_)
 clear hK K hHeld
 try simp only [Act.put,sA,sB,sC]
 refine wpAnyH_re (S' := fun w' => Fr (fun _ => False) w7 w') (fun w' h => hfr.trans h) ?_
 clear hfr
 refine tL (i := 6) (d := some 34) (v := ?vm6) rfl ?ym6 (Fr.refl _ _) ?rm6
 case ym6 =>
  intro wq hSw
  (try dsimp only at hSw)
  go_simp <;> with_reducible rfl
 try simp only [Act.put,sA,sB,sC]
 refine tL (i := 7) (d := some 41) (v := ?vm7) rfl ?ym7 (Fr.refl _ _) ?rm7
 case ym7 =>
  intro wq hSw
  (try dsimp only at hSw)
  go_simp <;> with_reducible rfl
 try simp only [Act.put,sA,sB,sC]
 refine tL (i := 8) (d := some 42) (v := ?vm8) rfl ?ym8 (Fr.refl _ _) ?rm8
 case ym8 =>
  intro wq hSw
  (try dsimp only at hSw)
  go_simp <;> with_reducible rfl
 try simp only [Act.put,sA,sB,sC]
 refine tL (i := 9) (d := some 12) (v := ?vm9) rfl ?ym9 (Fr.refl _ _) ?rm9
 case ym9 =>
  intro wq hSw
  (try dsimp only at hSw)
  go_simp <;> with_reducible rfl
 try simp only [Act.put,sA,sB,sC]
 refine tL (i := 10) (d := some 13) (v := ?vm10) rfl ?ym10 (Fr.refl _ _) ?rm10
 case ym10 =>
  intro wq hSw
  (try dsimp only at hSw)
  go_simp <;> with_reducible rfl
 try simp only [Act.put,sA,sB,sC]
 refine tD ?_
 go_wp2_with (first
  | (refine at_dst11 (d := 43) ?_; refine wpList_step11 (o := ⟨some 43, _, _, _, _, _⟩) rfl _ w7 (step_st13 (x := .tmp 8) rfl rfl Hs7.out) ?_))
 refine (stmaker_any A C kd p g z w7 GR7.out).mono ?_; rintro e w8 ⟨b1, b2, b3, rfl, hmk, hb8⟩
 have hb9 : Below w8.heap.size w8 (w8.alloc (.cells #[(.func (.func 65) #[] #[.pointer (some ⟨b1, 0, none⟩), .pointer (some ⟨b3, 0, none⟩), .pointer (some ⟨b2, 0, none⟩)])] 70)) := (Below.refl _ _).alloc (Nat.le_refl _) _
 have hbf := heap_alloc_new w8 (.cells #[(.func (.func 65) #[] #[.pointer (some ⟨b1, 0, none⟩), .pointer (some ⟨b3, 0, none⟩), .pointer (some ⟨b2, 0, none⟩)])] 70)
 have hbb := hb8.trans (hb9.mono hb8.size)
 have hs9 := (Hs7.out.later hb8).later hb9
 have hm9 := hmk.later hb9
 have hx9 := (hbb.block _ (block_lt HBm7.out)).trans HBm7.out
 have hv9 := MV7.out.later hbb
 have hB9 := B7.out.trans (hbb.mono B7.out.size)
 obtain ⟨w9, hw9⟩ : ∃ x, x = w8.alloc (.cells #[(.func (.func 65) #[] #[.pointer (some ⟨b1, 0, none⟩), .pointer (some ⟨b3, 0, none⟩), .pointer (some ⟨b2, 0, none⟩)])] 70) := ⟨_, rfl⟩
 rw [← hw9] at hbf hs9 hm9 hx9 hv9 hB9
 obtain ⟨bF, hbF⟩ : ∃ bF, bF = w8.heap.size := ⟨_, rfl⟩
 rw [← hbF] at hbf
 have Hs9 := Lib.hid hs9
 have MK := Lib.hid hm9
 have HBm9 := Lib.hid hx9
 have MV9 := Lib.hid hv9
 have B9 := Lib.hid hB9
 have HBf := Lib.hid hbf
 have Hw9 := Lib.hid hw9
 have HbF := Lib.hid hbF
 clear hb8 hmk hb9 hbf hbb hs9 hm9 hx9 hv9 hB9 hw9 hbF
 go_wp2_with (first
  | (refine at_dst11 (d := 47) ?_; refine wpList_step11 (o := ⟨some 47, _, _, _, _, _⟩) rfl _ _ (step_st13 (x := .tmp 8) rfl rfl (by first | exact Hs9.out | (rw [← Hw9.out]; exact Hs9.out))) ?_))
 rw [← Hw9.out, ← HbF.out]
 have hC := stwrite_any (p := p) (kd := kd) (g := g) DK (AC.out.later DK B9.out) Hn.out hp16 51 enters_mending #[.pointer (some ⟨bM, 0, none⟩), .pointer (some ⟨bF, 0, none⟩)] (secM k n kd p g b G) (fun u i hi hu => by
  have hcm : u.cell? ⟨bM, 0, none⟩ = some (.map (some M)) := by rw [cell_of_row _ _ _ _ _ _ ((hu.block _ (block_lt HBm9.out)).trans HBm9.out)]; rfl
  cases hGi : G (homeN n p i) with
  | true =>
   have hfi : mapF k n kd p g b G n i = some (sh13 k kd p g b i) := by rw [mapF, if_pos ⟨hi, hGi⟩]
   refine (mending_yes (MV9.out.later hu) hcm (by omega) hfi).mono ?_
   rintro e u' ⟨rfl, h1⟩
   have hl : secM k n kd p g b G i = [] := by rw [secM, if_pos hGi]
   exact ⟨none, 0, by rw [hl]; rfl, by rw [hl]; exact Sl.nil _ 1 0 (by decide), h1, fun bb o h => by rw [hl] at h; exact absurd h (Nat.lt_irrefl _)⟩
  | false =>
   have hfi : mapF k n kd p g b G n i = none := by rw [mapF, if_neg (fun q => by rw [hGi] at q; exact absurd q.2 (by decide))]
   have hl : secM k n kd p g b G i = secs13 k kd p g b i := by rw [secM, if_neg (by rw [hGi]; decide)]
   have hl2 : (secs13 k kd p g b i).length = 64 := secs13_len HK1.out HRo.out
   refine (mending_no (l := secs13 k kd p g b i) (MV9.out.later hu) hcm ((hu.block _ (block_lt HBf.out)).trans HBf.out) (by omega) hfi (fun v hv => ?_)).mono ?_
   ·have hh := making_any ((MK.out.later hu).later hv) (((AC.out.nt.keep B9.out).keep hu).keep hv) hi hq2 (allL_row hi) (row13_len HK1.out) HRo.out.k1 HRo.out.k4 hp16 HRo.out.g (show z < 65536 by omega)
    rw [HNB.out] at hh
    exact hh
   ·rintro e u' ⟨A', rfl, h1, h2, h3⟩
    rw [hl, hl2]
    exact ⟨A', 64, rfl, h1, h2, fun bb o _ e => h3 bb o e⟩)
 refine hC.mono ?_; clear hC; rintro e w10 ⟨rfl, S10, ha10, hn10⟩
 obtain ⟨e1, e2⟩ := mend_all13 (n := n) (kd := kd) (g := g) (b := b) (G := G) (AC.out.len.trans Hn.out.symm) AC.out.n Hp.out HK1.out HRo.out
 rw [e1]
 rw [e2] at ha10
 have M10 := Lib.hid (show MutA Rep S A (upTo (fun d x => if G d = true then x else x.write (p : Int) (sec13 k n kd p g b d)) xs n) w w10 from ⟨S10, ha10, hn10.below B9.out⟩)
 obtain ⟨q, hq⟩ : ∃ q, q = cntG n (fun d => !G d && liveG xs d) := ⟨_, rfl⟩
 rw [← hq]
 clear ha10 hn10 e1 e2
 go_wp2_with fail
 go_ret2
 exact ⟨rfl, M10.out⟩
theorem strK (DK : DrvK Rep) : StrK Rep where
 put := fun kd p g b A2 c2 h hr hp hs _ => stput_any DK kd p g b A2 c2 rfl rfl h hr hp hs
 get := fun h hr hp hs => stget_any DK rfl rfl h hr hp hs
 whole := fun h hr hp hs => stwhole_any DK rfl rfl h hr hp hs
 mend := fun h hr hp hs hG => stmend_any DK rfl rfl h hr hp hs hG
 room := fun h => (sroom_any h).mono fun e w' hh => ⟨hh.1, by rw [hh.2]; exact Below.refl _ _⟩
 home := fun w n p i h1 h2 hp hi => shome_any w n p i h1 h2 hp hi
end
end
end Go.Proofs.YtajdholblmdnjaaGreatDoor
