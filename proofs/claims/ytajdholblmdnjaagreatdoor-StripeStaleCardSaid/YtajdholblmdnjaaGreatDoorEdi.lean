/-
  Contracts of package stripe's Get and Whole. Condition: the array and the coder are ones that New made; what the drives read at the place is a stripe's. (Written by gen_edi.py.)
-/
import Derived.Test.YtajdholblmdnjaaGreatDoorEdg
set_option linter.unusedVariables false
set_option maxRecDepth 100000
set_option maxHeartbeats 3200000
namespace Go.Proofs.YtajdholblmdnjaaGreatDoor
open Go.RowKit Go.Proofs
def whL (n p : Nat) (G : Nat → Bool) (t : Nat) : List Bool := (List.range n).map fun i => decide (i < t) && G (homeN n p i)
theorem whL_len {n p t : Nat} {G : Nat → Bool} : (whL n p G t).length = n := by simp [whL]
theorem whL_zero {n p : Nat} {G : Nat → Bool} : List.replicate n (Value.bool false) = bcells (whL n p G 0) := by
 apply List.ext_getElem
 ·rw [List.length_replicate, bcellsD_length, whL_len]
 ·intro i h1 h2
  rw [List.getElem_replicate]
  have := bcells_get (whL n p G 0) i (by rw [bcellsD_length] at h2; exact h2)
  rw [List.getElem?_eq_getElem h2] at this
  injection this with this
  rw [this]
  simp [whL]
theorem whL_next {n p t : Nat} {G : Nat → Bool} : (bcells (whL n p G t)).set t (.bool (G (homeN n p t))) = bcells (whL n p G (t + 1)) := by
 unfold bcells
 rw [← List.map_set]
 congr 1
 apply List.ext_getElem
 ·rw [List.length_set, whL_len, whL_len]
 ·intro i h1 h2
  rw [List.getElem_set]
  simp only [whL, List.getElem_map, List.getElem_range]
  by_cases e : t = i
  ·subst e
   rw [if_pos rfl]
   simp
  ·rw [if_neg e]
   congr 1
   rw [Bool.eq_iff_iff, decide_eq_true_iff, decide_eq_true_iff]
   omega
theorem whL_all {n p : Nat} {G : Nat → Bool} : whL n p G n = (List.range n).map fun i => G (homeN n p i) := by
 unfold whL
 refine List.map_congr_left fun i hi => ?_
 rw [decide_eq_true (List.mem_range.1 hi), Bool.true_and]
theorem make13b (z : Int) (n : Nat) (hz : z = (n : Int)) (hn : n ≤ 1048576) (w : World) :
  (Instr.makeSlice 48 (.int .i64 z) (.int .i64 z)).run Tryz.prog w = .ok (.slice (some ⟨w.heap.size, 0, none⟩) n n) (w.alloc (.cells (madeCells #[.bool false] n) 4)) := by
 obtain ⟨i0, hi, hz0, hz1, hz2⟩ := info_parts info_bool
 subst hz
 have h := run_make (P := Tryz.prog) w 48 4 i0 (.bool false) Tryz.underlying48 hi hz0 .i64 .i64 (n : Int) (n : Int) (by omega) (by omega) (by rw [hz2]; omega) (by omega)
 rw [hz1, Nat.mul_one, Int.toNat_natCast] at h
 exact h
section
variable {Rep : World → (Nat → Prop) → Nat → Dv → Prop} {w : World} {S : Nat → Prop} {A C k m F T N p g n R : Nat} {kd : UInt8} {xs : List Dv} {b : List UInt8} {G : Nat → Bool}
theorem stget_any (DK : DrvK Rep) (hn : n = k + m) (hR : R = 44 * k) (h : Ac13 Rep w S A C k m F T N xs) (hr : RefOk kd p g b.length (44 * k)) (hp : p < N) (hs : Str xs k (k + m) N kd p g b G) :
  Calls Tryz.prog 14 #[.pointer (some ⟨A, 0, none⟩), .pointer (some ⟨C, 0, none⟩), .agg #[.int .u8 (kd.toNat : Int), .int .i64 (p : Int), .int .u64 (g : Int)]] w fun e w' => ∃ A2 n2 c2, e = .returned (.tuple #[.slice A2 n2 c2, .int .i64 (if k ≤ cntG n G then 0 else 130)]) ∧ NewB w A2 n2 c2 (if k ≤ cntG n G then b else []) w' := by
 have hk1 := h.c.k1
 have hq2 : n ≤ 255 := by have := h.c.n255; omega
 have hq1 : 1 ≤ n := by omega
 have hp16 : p < 65536 := hr.p
 have hR16 : R < 65536 := by rw [hR]; exact hr.R
 have hb16 : b.length ≤ R := by rw [hR]; exact hr.z
 have AC := Lib.hid h
 have HRo := Lib.hid hr
 have Hp := Lib.hid hp
 have Hn := Lib.hid hn
 have HR := Lib.hid hR
 have HK1 := Lib.hid hk1
 clear h hr hp hn hR hk1
 have HS := Lib.hid hs
 clear hs
 obtain ⟨c, hc⟩ : ∃ c, c = cntG n G := ⟨_, rfl⟩
 rw [← hc]
 have Hc := Lib.hid hc
 clear hc
 by_cases hkc : k ≤ c
 ·rw [if_pos hkc, if_pos hkc]
  have hck : ¬ (c : Int) < (k : Int) := by omega
  have hb16b := hb16
  have hzv := zero_st13
  go_enter Tryz.func14, Tryz.ntmps14
  go_wp2_with (first
   | (refine at_dst11 (d := 16) ?_; refine wpList_step11 (o := ⟨some 16, _, _, _, _, _⟩) rfl _ _ (step_ref13 (x := .tmp 5) rfl rfl (heap_alloc_new w _)) ?_)
   | (refine at_dst11 (d := 17) ?_; refine wpList_step11 (o := ⟨some 17, _, _, _, _, _⟩) rfl _ _ (step_buildSt13 (x := .tmp 14) (y := .tmp 15) (z := .tmp 16) rfl rfl rfl rfl) ?_))
  have hnew : StB ((w.alloc (.cells #[.int .u8 (kd.toNat : Int), .int .i64 (p : Int), .int .u64 (g : Int)] 34)).alloc (.cells #[.pointer (some ⟨A, 0, none⟩), .pointer (some ⟨C, 0, none⟩), .int .u8 (kd.toNat : Int), .int .i64 (p : Int), .int .u64 (g : Int)] 63)) (w.heap.size + 1) A C kd p g := by
   have := heap_alloc_new (w.alloc (.cells #[.int .u8 (kd.toNat : Int), .int .i64 (p : Int), .int .u64 (g : Int)] 34)) (.cells #[.pointer (some ⟨A, 0, none⟩), .pointer (some ⟨C, 0, none⟩), .int .u8 (kd.toNat : Int), .int .i64 (p : Int), .int .u64 (g : Int)] 63)
   rw [show (w.alloc (.cells #[.int .u8 (kd.toNat : Int), .int .i64 (p : Int), .int .u64 (g : Int)] 34)).heap.size = w.heap.size + 1 from by simp] at this
   exact this
  have hb1 : Below w.heap.size w ((w.alloc (.cells #[.int .u8 (kd.toNat : Int), .int .i64 (p : Int), .int .u64 (g : Int)] 34)).alloc (.cells #[.pointer (some ⟨A, 0, none⟩), .pointer (some ⟨C, 0, none⟩), .int .u8 (kd.toNat : Int), .int .i64 (p : Int), .int .u64 (g : Int)] 63)) := ((Below.refl _ _).alloc (Nat.le_refl _) _).alloc (by simp) _
  obtain ⟨w1, hw1⟩ : ∃ x, x = ((w.alloc (.cells #[.int .u8 (kd.toNat : Int), .int .i64 (p : Int), .int .u64 (g : Int)] 34)).alloc (.cells #[.pointer (some ⟨A, 0, none⟩), .pointer (some ⟨C, 0, none⟩), .int .u8 (kd.toNat : Int), .int .i64 (p : Int), .int .u64 (g : Int)] 63)) := ⟨_, rfl⟩
  rw [← hw1] at hnew hb1 ⊢
  obtain ⟨B, hB⟩ : ∃ B, B = w.heap.size + 1 := ⟨_, rfl⟩
  rw [← hB] at hnew ⊢
  have HB := Lib.hid (show w.heap.size ≤ B by omega)
  have Hs1 := Lib.hid hnew
  have B1 := Lib.hid hb1
  clear hw1 hnew hb1 hB hzv
  refine (fault_any DK (AC.out.later DK B1.out) HRo.out.k1 HRo.out.k4 Hp.out).mono ?_; rintro e w2 ⟨rfl, hb2⟩
  have B2 := Lib.hid (B1.out.trans (hb2.mono B1.out.size))
  have Hs2 := Lib.hid (Hs1.out.later hb2)
  clear hb2
  have hwh := whole_any DK (AC.out.later DK B2.out) HRo.out Hp.out HS.out
  rw [← Hn.out] at hwh
  go_wp2_with (first
   | (refine at_dst11 (d := 24) ?_; refine wpList_step11 (o := ⟨some 24, _, _, _, _, _⟩) rfl _ w2 (step_st13 (x := .tmp 8) rfl rfl Hs2.out) ?_))
  refine hwh.mono ?_; clear hwh; rintro e w3 ⟨M, z, rfl, hmv, hzb, hz, hM, hb3⟩
  have B3 := Lib.hid (B2.out.trans (hb3.mono B2.out.size))
  have MV := Lib.hid hmv
  have HZ := Lib.hid hzb
  have HM := Lib.hid (show w2.heap.size ≤ M ∧ M < w3.heap.size from ⟨hM, hmv.lt⟩)
  have hln := hmv.len 3
  rw [← Hc.out] at hln
  have hzz : z = b.length := hzb (by have := Hc.out; have := HK1.out; omega)
  obtain ⟨nb, hnb⟩ : ∃ nb, nb = b.length := ⟨_, rfl⟩
  obtain rfl : z = nb := hzz.trans hnb.symm
  have HNB := Lib.hid hnb
  clear hb3 hmv hzb hM hzz hnb
  go_wp2_with fail
  refine (ck_any C k m F T w3 (AC.out.c.later B3.out)).mono ?_; rintro e w4 ⟨rfl, hw4⟩
  obtain rfl : w3 = w4 := hw4.symm
  clear hw4
  go_wp2_with fail
  clear hln
  refine (cn13 (AC.out.c.later B3.out) Hn.out).mono ?_; rintro e w4 ⟨rfl, hb4⟩
  have B4 := Lib.hid (B3.out.trans (hb4.mono B3.out.size))
  have MV4 := Lib.hid (MV.out.later hb4)
  clear hb4
  go_wp2_with fail
  refine (bodies_any MV4.out hq2 (mapF_ok HRo.out HK1.out)).mono ?_; rintro e w5 ⟨A5, rfl, hgr, hb5⟩
  rw [mapF_got] at hgr
  have B5 := Lib.hid (B4.out.trans (hb5.mono B4.out.size))
  have GR := Lib.hid hgr
  have hdd := ddata_ok C k m F T A5 n n (got k n p b G) w5 (AC.out.c.later B5.out) hgr (fun r q => Nat.le_trans (got_rows HK1.out r q) (by decide)) (by omega)
  have hrt : rightX k m (got k n p b G) = 0 := by
   rw [Hn.out]
   exact got_right HK1.out (by rw [← Hn.out, ← Hc.out]; exact hkc)
  have HRT := Lib.hid hrt
  clear hb5 hgr hrt
  go_wp2_with fail
  refine hdd.mono ?_; clear hdd; rintro e w6 ⟨⟨hx, rfl⟩ | ⟨_, A6, c6, X, hX, rfl, hG6⟩, hb6⟩
  ·exact absurd HRT.out hx
  have hdt : dataL k ((got k n p b G).getD ((thereL (got k n p b G) n).getD 0 0) []).length (solD k X (got k n p b G) ((thereL (got k n p b G) n).take k)) = cutL b 44 k := by
   rw [Hn.out] at hX ⊢
   exact got_data HK1.out (by rw [← Hn.out, ← Hc.out]; exact hkc) hX
  rw [hdt] at hG6
  have B6 := Lib.hid (B5.out.trans (hb6.mono B5.out.size))
  have hj := cjoin_new C k m F T A6 k c6 (cutL b 44 k) (z : Int) (by omega) (by omega) w6 (AC.out.c.later B6.out) hG6 (fun r q => by rw [cut_rows b 44 k r q]; decide)
  clear hX hdt hG6 hb6 hck
  have hwz : wrap64 (z : Int) = (z : Int) := by unfold wrap64; omega
  have hwz2 : IntKind.i64.wrap (z : Int) = (z : Int) := by rw [IntKind.wrap_i64]; omega
  go_wp2_with fail
  clear hwz hwz2
  refine hj.mono ?_; clear hj; rintro e w7 ⟨hb7, ⟨hx, rfl⟩ | ⟨_, A7, n7, c7, rfl, hnb7⟩⟩
  ·exfalso
   apply hx
   refine ⟨cut_even b 44 k, by omega, ?_⟩
   rw [cut_len]
   have := HR.out
   have := HNB.out
   omega
  rw [Int.toNat_natCast, HNB.out, join_back (by have := HRo.out.z; omega)] at hnb7
  obtain ⟨h71, h72, h73⟩ := hnb7
  have N7 := Lib.hid (show NewB w A7 n7 c7 b w7 from ⟨h71, B6.out.trans (h72.mono B6.out.size), fun bb o hn hA => by have := h73 bb o hn hA; have := B6.out.size; omega⟩)
  clear hb7 h71 h72 h73
  go_wp2_with fail
  go_ret2
  exact ⟨A7, n7, c7, rfl, N7.out⟩
 ·rw [if_neg hkc, if_neg hkc]
  have hck : (c : Int) < (k : Int) := by omega
  have hzv := zero_st13
  go_enter Tryz.func14, Tryz.ntmps14
  go_wp2_with (first
   | (refine at_dst11 (d := 16) ?_; refine wpList_step11 (o := ⟨some 16, _, _, _, _, _⟩) rfl _ _ (step_ref13 (x := .tmp 5) rfl rfl (heap_alloc_new w _)) ?_)
   | (refine at_dst11 (d := 17) ?_; refine wpList_step11 (o := ⟨some 17, _, _, _, _, _⟩) rfl _ _ (step_buildSt13 (x := .tmp 14) (y := .tmp 15) (z := .tmp 16) rfl rfl rfl rfl) ?_))
  have hnew : StB ((w.alloc (.cells #[.int .u8 (kd.toNat : Int), .int .i64 (p : Int), .int .u64 (g : Int)] 34)).alloc (.cells #[.pointer (some ⟨A, 0, none⟩), .pointer (some ⟨C, 0, none⟩), .int .u8 (kd.toNat : Int), .int .i64 (p : Int), .int .u64 (g : Int)] 63)) (w.heap.size + 1) A C kd p g := by
   have := heap_alloc_new (w.alloc (.cells #[.int .u8 (kd.toNat : Int), .int .i64 (p : Int), .int .u64 (g : Int)] 34)) (.cells #[.pointer (some ⟨A, 0, none⟩), .pointer (some ⟨C, 0, none⟩), .int .u8 (kd.toNat : Int), .int .i64 (p : Int), .int .u64 (g : Int)] 63)
   rw [show (w.alloc (.cells #[.int .u8 (kd.toNat : Int), .int .i64 (p : Int), .int .u64 (g : Int)] 34)).heap.size = w.heap.size + 1 from by simp] at this
   exact this
  have hb1 : Below w.heap.size w ((w.alloc (.cells #[.int .u8 (kd.toNat : Int), .int .i64 (p : Int), .int .u64 (g : Int)] 34)).alloc (.cells #[.pointer (some ⟨A, 0, none⟩), .pointer (some ⟨C, 0, none⟩), .int .u8 (kd.toNat : Int), .int .i64 (p : Int), .int .u64 (g : Int)] 63)) := ((Below.refl _ _).alloc (Nat.le_refl _) _).alloc (by simp) _
  obtain ⟨w1, hw1⟩ : ∃ x, x = ((w.alloc (.cells #[.int .u8 (kd.toNat : Int), .int .i64 (p : Int), .int .u64 (g : Int)] 34)).alloc (.cells #[.pointer (some ⟨A, 0, none⟩), .pointer (some ⟨C, 0, none⟩), .int .u8 (kd.toNat : Int), .int .i64 (p : Int), .int .u64 (g : Int)] 63)) := ⟨_, rfl⟩
  rw [← hw1] at hnew hb1 ⊢
  obtain ⟨B, hB⟩ : ∃ B, B = w.heap.size + 1 := ⟨_, rfl⟩
  rw [← hB] at hnew ⊢
  have HB := Lib.hid (show w.heap.size ≤ B by omega)
  have Hs1 := Lib.hid hnew
  have B1 := Lib.hid hb1
  clear hw1 hnew hb1 hB hzv
  refine (fault_any DK (AC.out.later DK B1.out) HRo.out.k1 HRo.out.k4 Hp.out).mono ?_; rintro e w2 ⟨rfl, hb2⟩
  have B2 := Lib.hid (B1.out.trans (hb2.mono B1.out.size))
  have Hs2 := Lib.hid (Hs1.out.later hb2)
  clear hb2
  have hwh := whole_any DK (AC.out.later DK B2.out) HRo.out Hp.out HS.out
  rw [← Hn.out] at hwh
  go_wp2_with (first
   | (refine at_dst11 (d := 24) ?_; refine wpList_step11 (o := ⟨some 24, _, _, _, _, _⟩) rfl _ w2 (step_st13 (x := .tmp 8) rfl rfl Hs2.out) ?_))
  refine hwh.mono ?_; clear hwh; rintro e w3 ⟨M, z, rfl, hmv, hzb, hz, hM, hb3⟩
  have B3 := Lib.hid (B2.out.trans (hb3.mono B2.out.size))
  have MV := Lib.hid hmv
  have HZ := Lib.hid hzb
  have HM := Lib.hid (show w2.heap.size ≤ M ∧ M < w3.heap.size from ⟨hM, hmv.lt⟩)
  have hln := hmv.len 3
  rw [← Hc.out] at hln
  clear hb3 hmv hzb hM
  go_wp2_with fail
  refine (ck_any C k m F T w3 (AC.out.c.later B3.out)).mono ?_; rintro e w4 ⟨rfl, hw4⟩
  obtain rfl : w3 = w4 := hw4.symm
  clear hw4
  go_wp2_with fail
  go_ret2
  exact ⟨none, 0, 0, rfl, Sl.nil _ 1 0 (by decide), B3.out, fun bb o h => absurd h (Nat.lt_irrefl _)⟩
theorem stwhole_any (DK : DrvK Rep) (hn : n = k + m) (hR : R = 44 * k) (h : Ac13 Rep w S A C k m F T N xs) (hr : RefOk kd p g b.length (44 * k)) (hp : p < N) (hs : Str xs k (k + m) N kd p g b G) :
  Calls Tryz.prog 20 #[.pointer (some ⟨A, 0, none⟩), .pointer (some ⟨C, 0, none⟩), .agg #[.int .u8 (kd.toNat : Int), .int .i64 (p : Int), .int .u64 (g : Int)]] w fun e w' => ∃ A2 c2, e = .returned (.slice A2 n c2) ∧ Sl w' 1 A2 n c2 (bcells ((List.range n).map fun i => G (homeN n p i))) ∧ Below w.heap.size w w' ∧ ∀ bb o, A2 = some ⟨bb, o, none⟩ → w.heap.size ≤ bb := by
 have hk1 := h.c.k1
 have hq2 : n ≤ 255 := by have := h.c.n255; omega
 have hq1 : 1 ≤ n := by omega
 have hp16 : p < 65536 := hr.p
 have hR16 : R < 65536 := by rw [hR]; exact hr.R
 have hb16 : b.length ≤ R := by rw [hR]; exact hr.z
 have AC := Lib.hid h
 have HRo := Lib.hid hr
 have Hp := Lib.hid hp
 have Hn := Lib.hid hn
 have HR := Lib.hid hR
 have HK1 := Lib.hid hk1
 clear h hr hp hn hR hk1
 have HS := Lib.hid hs
 clear hs
 have hmk := make13b (n : Int) n rfl (by omega)
 have hzv := zero_st13
 go_enter Tryz.func20, Tryz.ntmps20
 go_wp2_with (first
  | (refine at_dst11 (d := 14) ?_; refine wpList_step11 (o := ⟨some 14, _, _, _, _, _⟩) rfl _ _ (step_ref13 (x := .tmp 5) rfl rfl (heap_alloc_new w _)) ?_)
  | (refine at_dst11 (d := 15) ?_; refine wpList_step11 (o := ⟨some 15, _, _, _, _, _⟩) rfl _ _ (step_buildSt13 (x := .tmp 12) (y := .tmp 13) (z := .tmp 14) rfl rfl rfl rfl) ?_))
 have hnew : StB ((w.alloc (.cells #[.int .u8 (kd.toNat : Int), .int .i64 (p : Int), .int .u64 (g : Int)] 34)).alloc (.cells #[.pointer (some ⟨A, 0, none⟩), .pointer (some ⟨C, 0, none⟩), .int .u8 (kd.toNat : Int), .int .i64 (p : Int), .int .u64 (g : Int)] 63)) (w.heap.size + 1) A C kd p g := by
  have := heap_alloc_new (w.alloc (.cells #[.int .u8 (kd.toNat : Int), .int .i64 (p : Int), .int .u64 (g : Int)] 34)) (.cells #[.pointer (some ⟨A, 0, none⟩), .pointer (some ⟨C, 0, none⟩), .int .u8 (kd.toNat : Int), .int .i64 (p : Int), .int .u64 (g : Int)] 63)
  rw [show (w.alloc (.cells #[.int .u8 (kd.toNat : Int), .int .i64 (p : Int), .int .u64 (g : Int)] 34)).heap.size = w.heap.size + 1 from by simp] at this
  exact this
 have hb1 : Below w.heap.size w ((w.alloc (.cells #[.int .u8 (kd.toNat : Int), .int .i64 (p : Int), .int .u64 (g : Int)] 34)).alloc (.cells #[.pointer (some ⟨A, 0, none⟩), .pointer (some ⟨C, 0, none⟩), .int .u8 (kd.toNat : Int), .int .i64 (p : Int), .int .u64 (g : Int)] 63)) := ((Below.refl _ _).alloc (Nat.le_refl _) _).alloc (by simp) _
 obtain ⟨w1, hw1⟩ : ∃ x, x = ((w.alloc (.cells #[.int .u8 (kd.toNat : Int), .int .i64 (p : Int), .int .u64 (g : Int)] 34)).alloc (.cells #[.pointer (some ⟨A, 0, none⟩), .pointer (some ⟨C, 0, none⟩), .int .u8 (kd.toNat : Int), .int .i64 (p : Int), .int .u64 (g : Int)] 63)) := ⟨_, rfl⟩
 rw [← hw1] at hnew hb1 ⊢
 obtain ⟨B, hB⟩ : ∃ B, B = w.heap.size + 1 := ⟨_, rfl⟩
 rw [← hB] at hnew ⊢
 have HB := Lib.hid (show w.heap.size ≤ B by omega)
 have Hs1 := Lib.hid hnew
 have B1 := Lib.hid hb1
 clear hw1 hnew hb1 hB hzv
 refine (fault_any DK (AC.out.later DK B1.out) HRo.out.k1 HRo.out.k4 Hp.out).mono ?_; rintro e w2 ⟨rfl, hb2⟩
 have B2 := Lib.hid (B1.out.trans (hb2.mono B1.out.size))
 have Hs2 := Lib.hid (Hs1.out.later hb2)
 clear hb2
 have hwh := whole_any DK (AC.out.later DK B2.out) HRo.out Hp.out HS.out
 rw [← Hn.out] at hwh
 go_wp2_with (first
  | (refine at_dst11 (d := 20) ?_; refine wpList_step11 (o := ⟨some 20, _, _, _, _, _⟩) rfl _ w2 (step_st13 (x := .tmp 7) rfl rfl Hs2.out) ?_))
 refine hwh.mono ?_; clear hwh; rintro e w3 ⟨M, z, rfl, hmv, hzb, hz, hM, hb3⟩
 have B3 := Lib.hid (B2.out.trans (hb3.mono B2.out.size))
 have MV := Lib.hid hmv
 have HZ := Lib.hid hzb
 have HM := Lib.hid (show w2.heap.size ≤ M ∧ M < w3.heap.size from ⟨hM, hmv.lt⟩)
 clear hb3 hmv hzb hM
 go_wp2_with fail
 refine (cn13 (AC.out.c.later B3.out) Hn.out).mono ?_; rintro e w4 ⟨rfl, hb4⟩
 have B4 := Lib.hid (B3.out.trans (hb4.mono B3.out.size))
 have MV4 := Lib.hid (MV.out.later hb4)
 clear hb4
 go_wp2_with fail
 have hb5 : Below w4.heap.size w4 (w4.alloc (.cells (madeCells #[.bool false] n) 4)) := (Below.refl _ _).alloc (Nat.le_refl _) _
 have hrw : Rw (w4.alloc (.cells (madeCells #[.bool false] n) 4)) w4.heap.size 4 1 n n (bcells (whL n p G 0)) := by rw [← whL_zero]; exact Rw.made w4 _ _ n (by unfold maxLen; omega)
 obtain ⟨w5, hw5⟩ : ∃ v, v = w4.alloc (.cells (madeCells #[.bool false] n) 4) := ⟨_, rfl⟩
 rw [← hw5] at hb5 hrw ⊢
 have B5 := Lib.hid (B4.out.trans (hb5.mono B4.out.size))
 have MV5 := Lib.hid (MV4.out.later hb5)
 have HQ := Lib.hid (show ¬ M = w4.heap.size ∧ w.heap.size ≤ w4.heap.size from ⟨by have := MV4.out.lt; omega, B4.out.size⟩)
 obtain ⟨Q, hQ⟩ : ∃ Q, Q = w4.heap.size := ⟨_, rfl⟩
 rw [← hQ] at hrw HQ ⊢
 have RW5 := Lib.hid hrw
 clear hw5 hb5 hrw hmk hQ
 go_wp2_with fail
 go_loopw [29] (fun i wr => ∃ t : Nat, t ≤ n ∧ i = .int .i64 (t : Int) ∧ Rw wr Q 4 1 n n (bcells (whL n p G t)) ∧ Fr (fun b => b = Q) w5 wr) (fun i _ => n - (intOf i).toNat)
 case atStart => exact ⟨0, by omega, rfl, RW5.out, Fr.refl _ _⟩
 case round =>
  obtain ⟨t, ht, rfl, hrw, hf⟩ := hrel
  have RW := Lib.hid hrw
  have Hf := Lib.hid hf
  by_cases hlt : t < n
  ·have hti : (t : Int) < (n : Int) := by omega
   have hlk0 := (MV5.out.fr hf HQ.out.1).look t (by omega)
   have hlk : (Instr.lookup 79 (.map (some M)) (.int .i64 (t : Int)) true).run Tryz.prog wr = .ok (.tuple #[.agg (if G (homeN n p t) = true then sh13 k kd p g b t else Sh.zero).cs.toArray, .bool (G (homeN n p t))]) wr := by
    rw [hlk0, mapF]
    cases hG : G (homeN n p t)
    ·rw [if_neg (by simp), if_neg (by simp)]; rfl
    ·rw [if_pos ⟨hlt, rfl⟩, if_pos rfl]; rfl
   clear hlk0
   have hcell := hrw.cell (bcells_get (whL n p G t) t (by rw [whL_len]; exact hlt))
   have hfree := hrw.free t
   have hset := hrw.set10 t (.bool (G (homeN n p t)))
   rw [whL_next] at hset
   have SET := Lib.hid hset
   have F2 := Lib.hid (hf.setCell (p := ⟨Q, t, none⟩) (.inr rfl) (.bool (G (homeN n p t))))
   obtain ⟨gt, hgt⟩ : ∃ gt, gt = G (homeN n p t) := ⟨_, rfl⟩
   rw [← hgt] at hlk SET F2
   obtain ⟨vs, hvs⟩ : ∃ vs, vs = (if gt = true then sh13 k kd p g b t else Sh.zero).cs.toArray := ⟨_, rfl⟩
   rw [← hvs] at hlk
   obtain ⟨v0, hv0⟩ : ∃ v0, wr.cell? ⟨Q, t, none⟩ = some v0 := ⟨_, hcell⟩
   clear hset hrw hf hgt hvs hcell
   go_wp2_with fail
   go_roundw
   case rel => exact ⟨t + 1, by omega, by go_num, SET.out, F2.out⟩
   case measure => simp [intOf]; omega
  ·obtain rfl : t = n := by omega
   have Br := Lib.hid (B5.out.trans (hf.below (by have := B5.out.size; omega) (fun x q => by have q : x = Q := q; have := HQ.out; omega)))
   clear hrw hf
   go_wp2_with fail
   go_ret
   exact ⟨_, _, rfl, by rw [← whL_all]; exact RW.out.sl, Br.out, fun bb o hA => by injection hA with hA; injection hA with hA _; have := HQ.out; omega⟩
end
end Go.Proofs.YtajdholblmdnjaaGreatDoor
