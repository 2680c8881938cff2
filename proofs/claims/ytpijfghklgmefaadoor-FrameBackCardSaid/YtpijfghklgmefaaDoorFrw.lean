/-
  The statement's function FrameBack returns true, whatever its arguments. Condition: crc's table. (Written by gen_frw.py.)
-/
import Derived.Test.YtpijfghklgmefaaDoorFru
namespace Go.Proofs.YtpijfghklgmefaaDoor
open Go.RowKit Go.Proofs
set_option linter.unusedVariables false
set_option maxRecDepth 20000
set_option maxHeartbeats 3200000

theorem getR17_nil {l : List UInt8} (h : ¬ (getR17 l).2.2 = 0) : (getR17 l).2.1 = [] := by
  unfold getR17 at h ⊢
  dsimp only at h ⊢
  split
  · rfl
  · rename_i c
    rw [if_neg c] at h
    exact absurd rfl h
/-- A text that is put together, and of how many pieces. -/
def RetJ17 (P : List UInt8) (k : Nat) (w : World) (e : Ending) (w' : World) : Prop := ∃ A c, e = .returned (.tuple #[.slice A P.length c, .int .i64 (k : Int), .int .i64 0]) ∧ Sl w' 1 A P.length c (cells P) ∧ Below w.heap.size w w'
theorem frameBack_walk (st : Nat) (A : Option Addr) (n cp : Nat) (vs : List CvF) (B : Option Addr) (m q : Nat) (l : List UInt8) (room : Int) (w : World) (hst : st < 18446744073709551616) (hc : Chs w A n cp vs) (hg : ∀ x ∈ vs, x.x.g < 18446744073709551616) (hs : Sl w 1 B m q (cells l)) (r1 : -9223372036854775808 ≤ room ∧ room < 9223372036854775808) (hN : Nt w) :
    Calls Tryd.prog 3 #[.agg #[.int .u64 (st : Int), .slice A n cp], .slice B m q, .int .i64 room] w (SaysTrue w) := by
  obtain ⟨r1, r2⟩ := r1
  have hlim := hs.lim
  unfold maxLen at hlim
  have hml := hs.len
  rw [cells_length, Nat.mul_one] at hml
  have hx := ReB.new (w := w) (st := st) (A := A) (n := n) (c := cp)
  have hb1 : Below w.heap.size w (w.alloc (.cells #[.int .u64 (st : Int), .slice A n cp] 25)) := (Below.refl _ _).alloc (Nat.le_refl _) _
  obtain ⟨w1, hw1⟩ : ∃ x, x = w.alloc (.cells #[.int .u64 (st : Int), .slice A n cp] 25) := ⟨_, rfl⟩
  have HW1 := Lib.hid hw1
  rw [← hw1] at hx hb1
  have X1 := Lib.hid hx
  have B1 := Lib.hid hb1
  have HN := Lib.hid hN
  have C1 := Lib.hid (hc.below hb1)
  have S1 := Lib.hid (hs.below hb1 (Nat.le_refl _))
  have HG := Lib.hid hg
  have HST := Lib.hid hst
  have HM := Lib.hid hml
  clear hx hb1 hN hc hs hg hst hml hw1
  go_enter Tryd.func3, Tryd.ntmps3
  go_wp2_with (first | (rw [← HW1.out]) | (refine at_dst17 (d := 20) ?_; refine wpList_step17 (o := ⟨some 20, _, _, _, _, _⟩) (by rfl) _ _ (step_loadRe rfl rfl X1.out) ?_))
  refine (few17_any 0 st A n cp vs w1 C1.out).mono ?_; rintro e w2 ⟨β, rfl, hb2⟩
  have B2 := Lib.hid (B1.out.trans (hb2.mono B1.out.size))
  have X2 := Lib.hid (X1.out.later hb2)
  have C2 := Lib.hid (C1.out.below hb2)
  have S2 := Lib.hid (S1.out.below hb2 (Nat.le_refl _))
  have N2 := Lib.hid (HN.out.keep B2.out)
  clear hb2
  cases β
  · go_wp2_with fail
    refine (frames17 w2 N2.out).mono ?_; rintro e w3 ⟨rfl, hb3⟩
    go_wp2_with fail
    go_ret
    exact ⟨rfl, B2.out.trans (hb3.mono B2.out.size)⟩
  by_cases c1 : (2000 : Int) < (m : Int)
  · go_wp2_with fail
    refine (frames17 w2 N2.out).mono ?_; rintro e w3 ⟨rfl, hb3⟩
    go_wp2_with fail
    go_ret
    exact ⟨rfl, B2.out.trans (hb3.mono B2.out.size)⟩
  by_cases c2 : room < 8
  · go_wp2_with fail
    refine (frames17 w2 N2.out).mono ?_; rintro e w3 ⟨rfl, hb3⟩
    go_wp2_with fail
    go_ret
    exact ⟨rfl, B2.out.trans (hb3.mono B2.out.size)⟩
  by_cases c3 : 2000 < room
  · go_wp2_with fail
    refine (frames17 w2 N2.out).mono ?_; rintro e w3 ⟨rfl, hb3⟩
    go_wp2_with fail
    go_ret
    exact ⟨rfl, B2.out.trans (hb3.mono B2.out.size)⟩
  obtain ⟨long, hlong⟩ : ∃ long : Nat, room = (long : Int) + 7 := ⟨(room - 7).toNat, by omega⟩
  have LO := Lib.hid hlong
  clear hlong
  cases hok : okR (vs.map CvF.x)
  · have hp := putRecord_no st A n cp vs w2 C2.out hok
    go_wp2_with (refine at_dst17 (d := 38) ?_; refine wpList_step17 (o := ⟨some 38, _, _, _, _, _⟩) (by rfl) _ _ (step_loadRe rfl rfl X2.out) ?_)
    refine hp.mono ?_; clear hp; rintro e w3 ⟨rfl, hb3⟩
    have X3 := Lib.hid (X2.out.later hb3)
    have B3 := Lib.hid (B2.out.trans (hb3.mono B2.out.size))
    have S3 := Lib.hid (S2.out.below hb3 (Nat.le_refl _))
    have hri := rright17_any st A n cp vs w3 (C2.out.below hb3)
    rw [hok] at hri
    clear hb3 hok
    go_wp2_with (refine at_dst17 (d := 44) ?_; refine wpList_step17 (o := ⟨some 44, _, _, _, _, _⟩) (by rfl) _ _ (step_loadRe rfl rfl X3.out) ?_)
    refine hri.mono ?_; clear hri; rintro e wS ⟨rfl, hb4⟩
    have BS := Lib.hid (B3.out.trans (hb4.mono B3.out.size))
    have SS := Lib.hid (S3.out.below hb4 (Nat.le_refl _))
    clear hb4
    go_wp2_with fail
    by_cases hz : (getR17 l).2.2 = 0
    · obtain ⟨u1, u2, u3, u4⟩ := putR_get hz
      have hgr := getRecord17 B m q l wS SS.out (by omega)
      rw [hz] at hgr
      obtain ⟨sz, hsz⟩ : ∃ s, s = (getR17 l).1 := ⟨_, rfl⟩
      obtain ⟨xz, hxz⟩ : ∃ s, s = (getR17 l).2.1 := ⟨_, rfl⟩
      rw [← hsz] at hgr u1 u4
      rw [← hxz] at hgr u2 u3 u4
      refine hgr.mono ?_; clear hgr; rintro e wa ⟨ZA, zc, zs, rfl, hzs, hzc, hba⟩
      obtain ⟨zn, hzn⟩ : ∃ k, k = zs.length := ⟨_, rfl⟩
      rw [← hzn] at hzc ⊢
      have hq := ReB.new (w := wa) (st := sz) (A := ZA) (n := zn) (c := zc)
      have hbb : Below wa.heap.size wa (wa.alloc (.cells #[.int .u64 (sz : Int), .slice ZA zn zc] 25)) := (Below.refl _ _).alloc (Nat.le_refl _) _
      obtain ⟨wb, hwb⟩ : ∃ x, x = wa.alloc (.cells #[.int .u64 (sz : Int), .slice ZA zn zc] 25) := ⟨_, rfl⟩
      have HWB := Lib.hid hwb
      rw [← hwb] at hq hbb
      have XZ := Lib.hid hq
      have hab := hba.trans (hbb.mono hba.size)
      have BB := Lib.hid (BS.out.trans (hab.mono BS.out.size))
      have SB := Lib.hid (SS.out.below hab (Nat.le_refl _))
      have hpz := putRecord_yes sz u1 ZA zn zc zs wb (hzc.below hbb) (by rw [hzs]; exact u2) (fun v hv => u3 _ (by rw [← hzs]; exact List.mem_map_of_mem hv))
      rw [hzs, u4] at hpz
      clear u1 u2 u3 u4 hz hsz hxz hzs hzc hba hzn hq hbb hwb hab
      go_wp2_with (first | (rw [← HWB.out]) | (refine at_dst17 (d := 103) ?_; refine wpList_step17 (o := ⟨some 103, _, _, _, _, _⟩) (by rfl) _ _ (step_loadRe rfl rfl XZ.out) ?_))
      refine hpz.mono ?_; clear hpz; rintro e wc ⟨PA, pn, pc, rfl, hsp, hbc⟩
      have hpn := hsp.len
      rw [cells_length, Nat.mul_one, HM.out] at hpn
      obtain rfl : m = pn := hpn
      have k1 := str_of hsp
      have k2 := str_of (SB.out.below hbc (Nat.le_refl _))
      have BC := Lib.hid (BB.out.trans (hbc.mono BB.out.size))
      have hzz : ((bstr l).toList == (bstr l).toList) = true := by simp
      clear hsp hbc
      go_wp2_with fail
      refine (frames17 wc (HN.out.keep BC.out)).mono ?_; rintro e wd ⟨rfl, hbd⟩
      go_wp2_with fail
      go_ret
      exact ⟨rfl, BC.out.trans (hbd.mono BC.out.size)⟩
    · have hgr := getRecord17 B m q l wS SS.out (by omega)
      have hnil := getR17_nil hz
      obtain ⟨sz, hsz⟩ : ∃ s, s = (getR17 l).1 := ⟨_, rfl⟩
      obtain ⟨ez, hez⟩ : ∃ s, s = (getR17 l).2.2 := ⟨_, rfl⟩
      rw [← hsz, ← hez, hnil] at hgr
      rw [← hez] at hz
      have hez1 : ((ez : Int) != 0) = true := by simpa using hz
      refine hgr.mono ?_; clear hgr; rintro e wa ⟨ZA, zc, zs, rfl, hzs, hzc, hba⟩
      obtain rfl : zs = [] := List.map_eq_nil_iff.1 hzs
      have hq := ReB.new (w := wa) (st := sz) (A := ZA) (n := 0) (c := zc)
      have hbb : Below wa.heap.size wa (wa.alloc (.cells #[.int .u64 (sz : Int), .slice ZA 0 zc] 25)) := (Below.refl _ _).alloc (Nat.le_refl _) _
      obtain ⟨wb, hwb⟩ : ∃ x, x = wa.alloc (.cells #[.int .u64 (sz : Int), .slice ZA 0 zc] 25) := ⟨_, rfl⟩
      have HWB := Lib.hid hwb
      have hq : ReB wb wa.heap.size sz ZA 0 zc := by rw [hwb]; exact hq
      rw [← hwb] at hbb
      have hab := hba.trans (hbb.mono hba.size)
      have BB := Lib.hid (BS.out.trans (hab.mono BS.out.size))
      have z1 := hq.c1
      clear hnil hz hsz hez hzs hzc hba hbb hwb hab hq
      go_wp2_with (rw [← HWB.out])
      refine (frames17 wb (HN.out.keep BB.out)).mono ?_; rintro e wd ⟨rfl, hbd⟩
      go_wp2_with fail
      go_ret
      exact ⟨rfl, BB.out.trans (hbd.mono BB.out.size)⟩
  · have hp := putRecord_yes st HST.out A n cp vs w2 C2.out hok HG.out
    have hsh := putR_short st _ hok
    have hgp := getR17_put st HST.out _ hok (fun x hx => by obtain ⟨v, hv, rfl⟩ := List.mem_map.1 hx; exact HG.out v hv)
    obtain ⟨P, hP⟩ : ∃ P, P = putR st (vs.map CvF.x) := ⟨_, rfl⟩
    rw [← hP] at hp hsh hgp
    have HGP := Lib.hid hgp
    clear hgp hP
    go_wp2_with (refine at_dst17 (d := 38) ?_; refine wpList_step17 (o := ⟨some 38, _, _, _, _, _⟩) (by rfl) _ _ (step_loadRe rfl rfl X2.out) ?_)
    refine hp.mono ?_; clear hp; rintro e w3 ⟨A3, n3, c3, rfl, hs3, hb3⟩
    have hn3 := hs3.len
    rw [cells_length, Nat.mul_one] at hn3
    subst hn3
    have X3 := Lib.hid (X2.out.later hb3)
    have B3 := Lib.hid (B2.out.trans (hb3.mono B2.out.size))
    have S3 := Lib.hid (S2.out.below hb3 (Nat.le_refl _))
    have C3 := Lib.hid (C2.out.below hb3)
    have P3 := Lib.hid hs3
    have hri := rright17_any st A n cp vs w3 (C2.out.below hb3)
    rw [hok] at hri
    clear hb3 hok hs3
    go_wp2_with (refine at_dst17 (d := 44) ?_; refine wpList_step17 (o := ⟨some 44, _, _, _, _, _⟩) (by rfl) _ _ (step_loadRe rfl rfl X3.out) ?_)
    refine hri.mono ?_; clear hri; rintro e w4 ⟨rfl, hb4⟩
    have X4 := Lib.hid (X3.out.later hb4)
    have B4 := Lib.hid (B3.out.trans (hb4.mono B3.out.size))
    have S4 := Lib.hid (S3.out.below hb4 (Nat.le_refl _))
    have C4 := Lib.hid (C3.out.below hb4)
    have hcu := cut17_any A3 P.length c3 P room long LO.out (by have := LO.out; omega) (by have := LO.out; omega) w4 (P3.out.below hb4 (Nat.le_refl _)) (by omega) (HN.out.keep B4.out)
    clear hb4
    go_wp2_with fail
    refine hcu.mono ?_; clear hcu; rintro e w5 ⟨g, k, rfl, hgm, hb5⟩
    have hgr := hgm.gr
    have hkl := hgr.len
    have hfl := cutF_flat long P
    have hms := manyF_small long P.length
    rw [← cutF_len, hkl] at hms
    have hjc := joinF_cut (show 0 < long by have := LO.out; omega) (show long < 65536 by have := LO.out; omega) P []
    rw [List.append_nil, ← cutF_len, hkl] at hjc
    have X5 := Lib.hid (X4.out.later hb5)
    have B5 := Lib.hid (B4.out.trans (hb5.mono B4.out.size))
    have S5 := Lib.hid (S4.out.below hb5 (Nat.le_refl _))
    have C5 := Lib.hid (C4.out.below hb5)
    have hjo : Calls Tryd.prog 12 #[.slice (some ⟨g, 0, none⟩) k k] w5 (RetJ17 P k w5) := (join17_any (some ⟨g, 0, none⟩) k k (cutF long P) w5 hgr (by omega) (by omega) (HN.out.keep B5.out)).mono (by
      intro e w' h
      rw [hjc] at h
      obtain ⟨A', c', e1, e2, e3, _⟩ := h
      exact ⟨A', c', e1, e2, e3⟩)
    clear hb5 hgm hgr hkl hfl hjc
    go_wp2_with fail
    refine hjo.mono ?_; clear hjo; rintro e w6 ⟨JA, jc, rfl, hsj, hb6⟩
    have X6 := Lib.hid (X5.out.later hb6)
    have B6 := Lib.hid (B5.out.trans (hb6.mono B5.out.size))
    have S6 := Lib.hid (S5.out.below hb6 (Nat.le_refl _))
    have C6 := Lib.hid (C5.out.below hb6)
    have hgr := getRecord17 JA P.length jc P w6 hsj (by omega)
    rw [HGP.out] at hgr
    clear hb6 hsj
    go_wp2_with fail
    refine hgr.mono ?_; clear hgr; rintro e w7 ⟨YA, yc, ys, rfl, hys, hyc, hb7⟩
    have hyl : ys.length = n := by
      have h1 := congrArg List.length hys
      rw [List.length_map, List.length_map, C1.out.len] at h1
      exact h1
    rw [hyl] at hyc ⊢
    have hq := ReB.new (w := w7) (st := st) (A := YA) (n := n) (c := yc)
    have hb8 : Below w7.heap.size w7 (w7.alloc (.cells #[.int .u64 (st : Int), .slice YA n yc] 25)) := (Below.refl _ _).alloc (Nat.le_refl _) _
    obtain ⟨w8, hw8⟩ : ∃ x, x = w7.alloc (.cells #[.int .u64 (st : Int), .slice YA n yc] 25) := ⟨_, rfl⟩
    have HW8 := Lib.hid hw8
    rw [← hw8] at hq hb8
    have hb78 := hb7.trans (hb8.mono hb7.size)
    have Y8 := Lib.hid hq
    have X8 := Lib.hid (X6.out.later hb78)
    have B8 := Lib.hid (B6.out.trans (hb78.mono B6.out.size))
    have S8 := Lib.hid (S6.out.below hb78 (Nat.le_refl _))
    have hsa := rsame_rec st YA n yc ys A cp vs w8 (hyc.below hb8) (C6.out.below hb78) hys.symm
    clear hb7 hb8 hb78 hq hyc hys hyl hw8
    go_wp2_with (first | (rw [← HW8.out]) | (refine at_dst17 (d := 83) ?_; refine wpList_step17 (o := ⟨some 83, _, _, _, _, _⟩) (by rfl) _ _ (step_loadRe rfl rfl Y8.out) ?_) | (refine at_dst17 (d := 84) ?_; refine wpList_step17 (o := ⟨some 84, _, _, _, _, _⟩) (by rfl) _ _ (step_loadRe rfl rfl X8.out) ?_))
    refine hsa.mono ?_; clear hsa; rintro e wS ⟨rfl, hb9⟩
    have BS := Lib.hid (B8.out.trans (hb9.mono B8.out.size))
    have SS := Lib.hid (S8.out.below hb9 (Nat.le_refl _))
    clear hb9
    go_wp2_with fail
    by_cases hz : (getR17 l).2.2 = 0
    · obtain ⟨u1, u2, u3, u4⟩ := putR_get hz
      have hgr := getRecord17 B m q l wS SS.out (by omega)
      rw [hz] at hgr
      obtain ⟨sz, hsz⟩ : ∃ s, s = (getR17 l).1 := ⟨_, rfl⟩
      obtain ⟨xz, hxz⟩ : ∃ s, s = (getR17 l).2.1 := ⟨_, rfl⟩
      rw [← hsz] at hgr u1 u4
      rw [← hxz] at hgr u2 u3 u4
      refine hgr.mono ?_; clear hgr; rintro e wa ⟨ZA, zc, zs, rfl, hzs, hzc, hba⟩
      obtain ⟨zn, hzn⟩ : ∃ k, k = zs.length := ⟨_, rfl⟩
      rw [← hzn] at hzc ⊢
      have hq := ReB.new (w := wa) (st := sz) (A := ZA) (n := zn) (c := zc)
      have hbb : Below wa.heap.size wa (wa.alloc (.cells #[.int .u64 (sz : Int), .slice ZA zn zc] 25)) := (Below.refl _ _).alloc (Nat.le_refl _) _
      obtain ⟨wb, hwb⟩ : ∃ x, x = wa.alloc (.cells #[.int .u64 (sz : Int), .slice ZA zn zc] 25) := ⟨_, rfl⟩
      have HWB := Lib.hid hwb
      rw [← hwb] at hq hbb
      have XZ := Lib.hid hq
      have hab := hba.trans (hbb.mono hba.size)
      have BB := Lib.hid (BS.out.trans (hab.mono BS.out.size))
      have SB := Lib.hid (SS.out.below hab (Nat.le_refl _))
      have hpz := putRecord_yes sz u1 ZA zn zc zs wb (hzc.below hbb) (by rw [hzs]; exact u2) (fun v hv => u3 _ (by rw [← hzs]; exact List.mem_map_of_mem hv))
      rw [hzs, u4] at hpz
      clear u1 u2 u3 u4 hz hsz hxz hzs hzc hba hzn hq hbb hwb hab
      go_wp2_with (first | (rw [← HWB.out]) | (refine at_dst17 (d := 103) ?_; refine wpList_step17 (o := ⟨some 103, _, _, _, _, _⟩) (by rfl) _ _ (step_loadRe rfl rfl XZ.out) ?_))
      refine hpz.mono ?_; clear hpz; rintro e wc ⟨PA, pn, pc, rfl, hsp, hbc⟩
      have hpn := hsp.len
      rw [cells_length, Nat.mul_one, HM.out] at hpn
      obtain rfl : m = pn := hpn
      have k1 := str_of hsp
      have k2 := str_of (SB.out.below hbc (Nat.le_refl _))
      have BC := Lib.hid (BB.out.trans (hbc.mono BB.out.size))
      have hzz : ((bstr l).toList == (bstr l).toList) = true := by simp
      clear hsp hbc
      go_wp2_with fail
      refine (frames17 wc (HN.out.keep BC.out)).mono ?_; rintro e wd ⟨rfl, hbd⟩
      go_wp2_with fail
      go_ret
      exact ⟨rfl, BC.out.trans (hbd.mono BC.out.size)⟩
    · have hgr := getRecord17 B m q l wS SS.out (by omega)
      have hnil := getR17_nil hz
      obtain ⟨sz, hsz⟩ : ∃ s, s = (getR17 l).1 := ⟨_, rfl⟩
      obtain ⟨ez, hez⟩ : ∃ s, s = (getR17 l).2.2 := ⟨_, rfl⟩
      rw [← hsz, ← hez, hnil] at hgr
      rw [← hez] at hz
      have hez1 : ((ez : Int) != 0) = true := by simpa using hz
      refine hgr.mono ?_; clear hgr; rintro e wa ⟨ZA, zc, zs, rfl, hzs, hzc, hba⟩
      obtain rfl : zs = [] := List.map_eq_nil_iff.1 hzs
      have hq := ReB.new (w := wa) (st := sz) (A := ZA) (n := 0) (c := zc)
      have hbb : Below wa.heap.size wa (wa.alloc (.cells #[.int .u64 (sz : Int), .slice ZA 0 zc] 25)) := (Below.refl _ _).alloc (Nat.le_refl _) _
      obtain ⟨wb, hwb⟩ : ∃ x, x = wa.alloc (.cells #[.int .u64 (sz : Int), .slice ZA 0 zc] 25) := ⟨_, rfl⟩
      have HWB := Lib.hid hwb
      have hq : ReB wb wa.heap.size sz ZA 0 zc := by rw [hwb]; exact hq
      rw [← hwb] at hbb
      have hab := hba.trans (hbb.mono hba.size)
      have BB := Lib.hid (BS.out.trans (hab.mono BS.out.size))
      have z1 := hq.c1
      clear hnil hz hsz hez hzs hzc hba hbb hwb hab hq
      go_wp2_with (rw [← HWB.out])
      refine (frames17 wb (HN.out.keep BB.out)).mono ?_; rintro e wd ⟨rfl, hbd⟩
      go_wp2_with fail
      go_ret
      exact ⟨rfl, BB.out.trans (hbd.mono BB.out.size)⟩
end Go.Proofs.YtpijfghklgmefaaDoor
