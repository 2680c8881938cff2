/-
  Contracts of package decode's restore and Data where nothing of what is asked for is missing: no inverse is asked for. Condition: the coder is one that New made. And what goes with it below the laws of layer 13. No condition but what each theorem says.
-/
import Derived.Test.YtokbhgbajdomnaaGreatDoorHg
import Derived.Test.YtokbhgbajdomnaaGreatDoorPb
set_option linter.unusedVariables false
set_option maxRecDepth 100000
set_option maxHeartbeats 3200000
namespace Go.Proofs.YtokbhgbajdomnaaGreatDoor
section
open Go.RowKit Go.Proofs
theorem thereL_full {rs : List (List UInt8)} {j : Nat} (h : ∀ i, i < j → (rs.getD i []).length ≠ 0) : (thereL rs j).length = j := by
 have e : (thereL rs j) = List.range j := List.filter_eq_self.2 fun i hi => decide_eq_true (by have := h i (List.mem_range.1 hi); omega)
 rw [e, List.length_range]
theorem restore_whole (C k m F T cnt : Nat) (A : Option Addr) (n c : Nat) (rs : List (List UInt8)) (w : World) (h : Cod w C k m F T) (hg : Gr w A n c rs) (hW : ∀ r ∈ rs, r.length ≤ 1048576) (hn : n ≤ 1048576) (hcnt : cnt ≤ k + m) (hnk : n = k + m) (hlv : levelT rs = true) (hqk : ¬ (thereL rs n).length < k) (hfull : ∀ i, i < cnt → (rs.getD i []).length ≠ 0) :
  Calls Tryz.prog 170 #[.pointer (some ⟨C, 0, none⟩), .slice A n c, .int .i64 (cnt : Int)] w fun e w' =>
   (∃ (A' : Option Addr) (c' : Nat), e = .returned (.tuple #[.slice A' cnt c', .int .i64 0]) ∧ Gr w' A' cnt c' (rs.take cnt)) ∧ Below w.heap.size w w' := by
 have h1 := h.k1
 have h3 := h.n255
 have hlen := hg.len
 obtain ⟨q, hq⟩ : ∃ q, q = (thereL rs n).length := ⟨_, rfl⟩
 have hqn : q ≤ n := by rw [hq]; exact thereL_le _ _
 rw [← hq] at hqk
 have H := qH h; clear h
 have Hg := qH hg; clear hg
 have HW := qH hW; clear hW
 have Hlen := qH hlen; clear hlen
 have Hq := qH hq; clear hq
 have HF := qH hfull; clear hfull
 have hz : ((n : Int) != (k : Int) + (m : Int)) = false := by simp; omega
 have hni : (n : Int) = (k : Int) + (m : Int) := by omega
 have Hnk := qH hnk
 have hcn : cnt ≤ n := by omega
 clear hnk hni
 have Hlv := qH hlv
 have hqki : ¬ ((q : Int) < (k : Int)) := by omega
 have hkq : k ≤ q := by omega
 have hkqi : (k : Int) ≤ (q : Int) := by omega
 have hcni : (cnt : Int) ≤ (n : Int) := by omega
 have hgc := Hg.out.capLe
 clear hlv hqk
 unfold maxLen at hgc
 go_enter Tryz.func170, Tryz.ntmps170
 go_wp2_with fail
 refine (dmade_any C k m F T _ H.out).mono ?_; rintro e w0 ⟨rfl, rfl⟩
 go_wp2_with fail
 have hh := dthere_any A n c rs w0 Hg.out (by omega)
 refine hh.mono ?_; clear hh; rintro e w1 ⟨⟨B, q', d, rfl, hs1⟩, hb1⟩
 obtain rfl : q' = q := by
  have := hs1.len
  rw [ncells_length] at this
  rw [Hq.out]
  omega
 have Hs1 := qH hs1
 have Hb1 := qH hb1
 have hz1 := hb1.size
 clear hs1 hb1
 go_wp2_with fail
 refine (cn_any C k m F T _ (H.out.later Hb1.out)).mono ?_; rintro e w2 ⟨rfl, hb2⟩
 have Hs2 := qH (Hs1.out.below hb2 (Nat.le_refl _))
 have Hb2 := qH (Hb1.out.trans (hb2.mono hz1))
 have hz2 := Hb2.out.size
 clear hb2
 go_wp2_with fail
 have hh := dlevel_any A n c rs B q' d w2 (Hg.out.later Hb2.out) Hs2.out
 rw [Hlv.out] at hh
 refine hh.mono ?_; clear hh; rintro e w3 ⟨rfl, hb3⟩
 have Hs3 := qH (Hs2.out.below hb3 (Nat.le_refl _))
 have Hb3 := qH (Hb2.out.trans (hb3.mono hz2))
 have hz3 := Hb3.out.size
 clear hb3
 go_wp2_with fail
 have hqd := Hs3.out.cap
 have hdt := Hs3.out.top
 unfold maxLen at hdt
 have hkd : k ≤ d := by omega
 have hkdi : (k : Int) ≤ (d : Int) := by omega
 have hcc : cnt ≤ c := by omega
 have hcci : (cnt : Int) ≤ (c : Int) := by omega
 refine (ck_any C k m F T _ (H.out.later Hb3.out)).mono ?_; rintro e w4 ⟨rfl, rfl⟩
 go_wp2_with fail
 have hgs : Gr w4 A cnt c (rs.take cnt) := (Hg.out.later Hb3.out).take hcn
 have hh := dclone_any A cnt c (rs.take cnt) w4 hgs (fun r hr => HW.out r (List.mem_of_mem_take hr)) (by omega)
 clear hgs
 refine hh.mono ?_; clear hh; rintro e w5 ⟨g, cur, rfl, hE, hg5⟩
 have E := qH hE
 have hz5 := hE.bel.size
 have hgn := hE.new
 have hrl : (rs.take cnt).length = cnt := by rw [List.length_take, Hlen.out]; omega
 have Hrl := qH hrl
 have hgr := hE.fil.gr hrl (by unfold maxLen; omega)
 have hh := dthere_any (some ⟨g, 0, none⟩) cnt cnt (rs.take cnt) w5 hgr (by omega)
 clear hE hgr hrl
 go_wp2_with fail
 refine hh.mono ?_; clear hh; rintro e w6 ⟨⟨B6, q6, d6, rfl, hs6⟩, hb6⟩
 have hq6 : (thereL (rs.take cnt) cnt).length = q6 := by
  have := hs6.len
  rw [ncells_length] at this
  omega
 have Hq6 := qH hq6
 have hq6l : q6 ≤ cnt := by rw [← hq6]; exact thereL_le _ _
 have E6 := qH (E.out.later hb6)
 have hz6 := hb6.size
 clear hs6 hb6 hq6
 have hfl : (thereL (rs.take cnt) cnt).length = cnt := thereL_full fun i hi => by
  rw [List.getD_eq_getElem?_getD, List.getElem?_take_of_lt hi, ← List.getD_eq_getElem?_getD]
  exact HF.out i hi
 obtain rfl : q6 = cnt := by rw [← Hq6.out, hfl]
 have halli : ¬ ((q6 : Int) < (q6 : Int)) := by omega
 clear hfl
 go_wp2_with fail
 go_ret2
 exact ⟨⟨_, _, rfl, E6.out.fil.gr Hrl.out (by unfold maxLen; omega)⟩, Hb3.out.trans (E6.out.bel.mono hz3)⟩
theorem ddata_whole (C k m F T : Nat) (A : Option Addr) (n c : Nat) (rs : List (List UInt8)) (w : World) (h : Cod w C k m F T) (hg : Gr w A n c rs) (hW : ∀ r ∈ rs, r.length ≤ 1048576) (hn : n ≤ 1048576) (hnk : n = k + m) (hlv : levelT rs = true) (hqk : ¬ (thereL rs n).length < k) (hfull : ∀ i, i < k → (rs.getD i []).length ≠ 0) :
  Calls Tryz.prog 142 #[.pointer (some ⟨C, 0, none⟩), .slice A n c] w fun e w' =>
   (∃ (A' : Option Addr) (c' : Nat), e = .returned (.tuple #[.slice A' k c', .int .i64 0]) ∧ Gr w' A' k c' (rs.take k)) ∧ Below w.heap.size w w' := by
 have hh := fun w1 (h1 : Cod w1 C k m F T) (h2 : Gr w1 A n c rs) => restore_whole C k m F T k A n c rs w1 h1 h2 hW hn (by omega) hnk hlv hqk hfull
 have Hg := qH hg; clear hg
 have HH := qH hh
 have H := qH h
 clear hW hlv hqk hfull hh h hnk
 go_enter Tryz.func142, Tryz.ntmps142
 go_wp2_with fail
 refine (ck_any C k m F T _ H.out).mono ?_; rintro e w1 ⟨rfl, rfl⟩
 have Hb1 := qH (Below.refl w1.heap.size w1)
 go_wp2_with fail
 have hh := HH.out w1 H.out Hg.out
 refine hh.mono ?_; clear hh; rintro e w2 ⟨⟨A', c', rfl, hG⟩, hb2⟩
 have Hb2 := qH (Hb1.out.trans (hb2.mono Hb1.out.size)); clear hb2
 have HG := qH hG; clear hG
 go_wp2_with fail
 go_ret2
 exact ⟨⟨A', c', rfl, HG.out⟩, Hb2.out⟩
end
section
open Go.RowKit Go.Proofs
section
variable {Rep : World → (Nat → Prop) → Nat → Dv → Prop} {w : World} {S : Nat → Prop} {A C k m F T N p g n R : Nat} {kd : UInt8} {xs : List Dv} {b : List UInt8} {G : Nat → Bool}
theorem got_level (hk : 1 ≤ k) : levelT (got k n p b G) = true := decide_eq_true fun a ha => by
 rw [got_len] at ha ⊢
 rw [got_row hk ha, got_row hk (by omega), row13_len hk, row13_len hk]
theorem got_take (hn : n = k + m) (h : ∀ i, i < n → G (homeN n p i) = true) : (got k n p b G).take k = cutL b 44 k := by
 apply List.ext_getElem?
 intro i
 by_cases hi : i < k
 ·rw [List.getElem?_take_of_lt hi, got_get (by omega), if_pos (h i (by omega)), row13, shard_data k _ i hi (cutL_length _ _ _) cut_level, List.getD_eq_getElem?_getD, List.getElem?_eq_getElem (by rw [cutL_length]; exact hi)]
  rfl
 ·rw [List.getElem?_eq_none (by rw [List.length_take, got_len]; omega), List.getElem?_eq_none (by rw [cutL_length]; omega)]
theorem stget_whole (DK : DrvK Rep) (hn : n = k + m) (hR : R = 44 * k) (h : Ac13 Rep w S A C k m F T N xs) (hr : RefOk kd p g b.length (44 * k)) (hp : p < N) (hs : Str xs k (k + m) N kd p g b G) (hG : ∀ d, d < n → G d = true) :
  Calls Tryz.prog 112 #[.pointer (some ⟨A, 0, none⟩), .pointer (some ⟨C, 0, none⟩), .agg #[.int .u8 (kd.toNat : Int), .int .i64 (p : Int), .int .u64 (g : Int)]] w fun e w' => ∃ A2 n2 c2, e = .returned (.tuple #[.slice A2 n2 c2, .int .i64 0]) ∧ NewB w A2 n2 c2 b w' := by
 have hk1 := h.c.k1
 have hq2 : n ≤ 255 := by have := h.c.n255; omega
 have hq1 : 1 ≤ n := by omega
 have hp16 : p < 65536 := hr.p
 have hR16 : R < 65536 := by rw [hR]; exact hr.R
 have hb16 : b.length ≤ R := by rw [hR]; exact hr.z
 have AC := qH h
 have HRo := qH hr
 have Hp := qH hp
 have Hn := qH hn
 have HR := qH hR
 have HK1 := qH hk1
 clear h hr hp hn hR hk1
 have HS := qH hs
 clear hs
 obtain ⟨c, hc⟩ : ∃ c, c = cntG n G := ⟨_, rfl⟩
 have Hc := qH hc
 have hc0 := hc
 clear hc
 have hcn : c = n := by rw [hc0, cntG_all hG]
 have hkc : k ≤ c := by have := Hn.out; omega
 have HGG := qH hG
 clear hG hcn hc0
 have hck : ¬ (c : Int) < (k : Int) := by omega
 have hb16b := hb16
 have hzv := zero_st13
 go_enter Tryz.func112, Tryz.ntmps112
 go_wp2_with (first
  | (refine at_dst11 (d := 16) ?_; refine wpList_step11 (o := ⟨some 16, _, _, _, _, _⟩) rfl _ _ (step_ref13 (x := .tmp 5) rfl rfl (heap_alloc_new w _)) ?_)
  | (refine at_dst11 (d := 17) ?_; refine wpList_step11 (o := ⟨some 17, _, _, _, _, _⟩) rfl _ _ (step_buildSt13 (x := .tmp 14) (y := .tmp 15) (z := .tmp 16) rfl rfl rfl rfl) ?_))
 have hnew : StB ((w.alloc (.cells #[.int .u8 (kd.toNat : Int), .int .i64 (p : Int), .int .u64 (g : Int)] 99)).alloc (.cells #[.pointer (some ⟨A, 0, none⟩), .pointer (some ⟨C, 0, none⟩), .int .u8 (kd.toNat : Int), .int .i64 (p : Int), .int .u64 (g : Int)] 219)) (w.heap.size + 1) A C kd p g := by
  have := heap_alloc_new (w.alloc (.cells #[.int .u8 (kd.toNat : Int), .int .i64 (p : Int), .int .u64 (g : Int)] 99)) (.cells #[.pointer (some ⟨A, 0, none⟩), .pointer (some ⟨C, 0, none⟩), .int .u8 (kd.toNat : Int), .int .i64 (p : Int), .int .u64 (g : Int)] 219)
  rw [show (w.alloc (.cells #[.int .u8 (kd.toNat : Int), .int .i64 (p : Int), .int .u64 (g : Int)] 99)).heap.size = w.heap.size + 1 from by simp] at this
  exact this
 have hb1 : Below w.heap.size w ((w.alloc (.cells #[.int .u8 (kd.toNat : Int), .int .i64 (p : Int), .int .u64 (g : Int)] 99)).alloc (.cells #[.pointer (some ⟨A, 0, none⟩), .pointer (some ⟨C, 0, none⟩), .int .u8 (kd.toNat : Int), .int .i64 (p : Int), .int .u64 (g : Int)] 219)) := ((Below.refl _ _).alloc (Nat.le_refl _) _).alloc (by simp) _
 obtain ⟨w1, hw1⟩ : ∃ x, x = ((w.alloc (.cells #[.int .u8 (kd.toNat : Int), .int .i64 (p : Int), .int .u64 (g : Int)] 99)).alloc (.cells #[.pointer (some ⟨A, 0, none⟩), .pointer (some ⟨C, 0, none⟩), .int .u8 (kd.toNat : Int), .int .i64 (p : Int), .int .u64 (g : Int)] 219)) := ⟨_, rfl⟩
 rw [← hw1] at hnew hb1 ⊢
 obtain ⟨B, hB⟩ : ∃ B, B = w.heap.size + 1 := ⟨_, rfl⟩
 rw [← hB] at hnew ⊢
 have HB := qH (show w.heap.size ≤ B by omega)
 have Hs1 := qH hnew
 have B1 := qH hb1
 clear hw1 hnew hb1 hB hzv
 refine (fault_any DK (AC.out.later DK B1.out) HRo.out.k1 HRo.out.k4 Hp.out).mono ?_; rintro e w2 ⟨rfl, hb2⟩
 have B2 := qH (B1.out.trans (hb2.mono B1.out.size))
 have Hs2 := qH (Hs1.out.later hb2)
 clear hb2
 have hwh := whole_any DK (AC.out.later DK B2.out) HRo.out Hp.out HS.out
 rw [← Hn.out] at hwh
 go_wp2_with (first
  | (refine at_dst11 (d := 24) ?_; refine wpList_step11 (o := ⟨some 24, _, _, _, _, _⟩) rfl _ w2 (step_st13 (x := .tmp 8) rfl rfl Hs2.out) ?_))
 refine hwh.mono ?_; clear hwh; rintro e w3 ⟨M, z, rfl, hmv, hzb, hz, hM, hb3⟩
 have B3 := qH (B2.out.trans (hb3.mono B2.out.size))
 have MV := qH hmv
 have HZ := qH hzb
 have HM := qH (show w2.heap.size ≤ M ∧ M < w3.heap.size from ⟨hM, hmv.lt⟩)
 have hln := hmv.len 3
 rw [← Hc.out] at hln
 have hzz : z = b.length := hzb (by have := Hc.out; have := HK1.out; omega)
 obtain ⟨nb, hnb⟩ : ∃ nb, nb = b.length := ⟨_, rfl⟩
 obtain rfl : z = nb := hzz.trans hnb.symm
 have HNB := qH hnb
 clear hb3 hmv hzb hM hzz hnb
 go_wp2_with fail
 refine (ck_any C k m F T w3 (AC.out.c.later B3.out)).mono ?_; rintro e w4 ⟨rfl, hw4⟩
 obtain rfl : w3 = w4 := hw4.symm
 clear hw4
 go_wp2_with fail
 clear hln
 refine (cn13 (AC.out.c.later B3.out) Hn.out).mono ?_; rintro e w4 ⟨rfl, hb4⟩
 have B4 := qH (B3.out.trans (hb4.mono B3.out.size))
 have MV4 := qH (MV.out.later hb4)
 clear hb4
 go_wp2_with fail
 refine (bodies_any MV4.out hq2 (mapF_ok HRo.out HK1.out)).mono ?_; rintro e w5 ⟨A5, rfl, hgr, hb5⟩
 rw [mapF_got] at hgr
 have B5 := qH (B4.out.trans (hb5.mono B4.out.size))
 have GR := qH hgr
 have hdd := ddata_whole C k m F T A5 n n (got k n p b G) w5 (AC.out.c.later B5.out) hgr (fun r q => Nat.le_trans (got_rows HK1.out r q) (by decide)) (by omega) Hn.out (got_level HK1.out) (by rw [got_there HK1.out, ← Hc.out]; omega) (fun i hi => by have := (got_pos (k := k) (n := n) (p := p) (b := b) (G := G) HK1.out (show i < n by have := Hn.out; omega)).2 (HGG.out _ (home_lt (by omega))); omega)
 rw [got_take Hn.out (fun i _ => HGG.out _ (home_lt (by omega)))] at hdd
 clear hb5 hgr
 go_wp2_with fail
 refine hdd.mono ?_; clear hdd; rintro e w6 ⟨⟨A6, c6, rfl, hG6⟩, hb6⟩
 have B6 := qH (B5.out.trans (hb6.mono B5.out.size))
 have hj := cjoin_new C k m F T A6 k c6 (cutL b 44 k) (z : Int) (by omega) (by omega) w6 (AC.out.c.later B6.out) hG6 (fun r q => by rw [cut_rows b 44 k r q]; decide)
 clear hG6 hb6 hck
 have hwz : wrap64 (z : Int) = (z : Int) := by unfold wrap64; omega
 have hwz2 : IntKind.i64.wrap (z : Int) = (z : Int) := by rw [IntKind.wrap_i64]; omega
 go_wp2_with fail
 clear hwz hwz2
 refine hj.mono ?_; clear hj; rintro e w7 ⟨hb7, ⟨hx, rfl⟩ | ⟨_, A7, n7, c7, rfl, hnb7⟩⟩
 ·exfalso
  apply hx
  refine ⟨cut_even b 44 k, by omega, ?_⟩
  rw [cut_len]
  have := HR.out
  have := HNB.out
  omega
 rw [Int.toNat_natCast, HNB.out, join_back (by have := HRo.out.z; omega)] at hnb7
 obtain ⟨h71, h72, h73⟩ := hnb7
 have N7 := qH (show NewB w A7 n7 c7 b w7 from ⟨h71, B6.out.trans (h72.mono B6.out.size), fun bb o hn hA => by have := h73 bb o hn hA; have := B6.out.size; omega⟩)
 clear hb7 h71 h72 h73
 go_wp2_with fail
 go_ret2
 exact ⟨A7, n7, c7, rfl, N7.out⟩
end
end
end Go.Proofs.YtokbhgbajdomnaaGreatDoor
