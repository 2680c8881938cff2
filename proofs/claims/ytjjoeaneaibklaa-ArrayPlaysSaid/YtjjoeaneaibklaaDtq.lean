/-
  The document's array (layer 10): contracts of Row, Crash and PutRow. Condition: bounds; what is handed in lies outside the array's blocks. (Written by gen_dtp.py.)
-/
import Derived.Test.YtjjoeaneaibklaaDtp
namespace Go.Proofs.Ytjjoeaneaibklaa
open Go.RowKit Go.Proofs
set_option linter.unusedVariables false

section
variable {w w' : World} {S : Nat → Prop} {A c i k : Nat} {AL : Option Addr} {ds : List Ds} {d : Ds} {xs : List Dv}
set_option maxRecDepth 100000
set_option maxHeartbeats 3200000
theorem rxrow_any (h : RX k w S A xs) (h0 : 0 < xs.length) (hx255 : xs.length ≤ 255) (hk : k ≤ 100000) (at_ : Int) (h1 : -9223372036854775808 ≤ at_) (h2 : at_ < 9223372036854775808) : Calls Try.prog 16 #[.pointer (some ⟨A, 0, none⟩), .int .i64 at_] w fun e w' => ∃ A' c', e = .returned (.slice A' xs.length c') ∧ Ns cells w' (fun _ => True) A' xs.length c' (rowL xs at_) ∧ Below w.heap.size w w' := by
  have H0 := Lib.hid h
  obtain ⟨i0, hi0, hz0, hz1, hz2⟩ := info_parts info_bs10
  have Hi := Lib.hid hi0
  have Hz0 := Lib.hid hz0
  have Hz1 := Lib.hid hz1
  have Hz2 := Lib.hid hz2
  obtain ⟨n, hn⟩ : ∃ n, n = xs.length := ⟨_, rfl⟩
  rw [← hn] at hx255 h0 ⊢
  have HN := Lib.hid hn
  clear hn h hi0 hz0 hz1 hz2
  go_enter Try.func16, Try.ntmps16
  go_wp2_with fail
  go_loopw [5, 6] (fun v i wr => ∃ (t : Nat) (A' : Option Addr) (c' : Nat), t ≤ n ∧ i = .int .i64 (t : Int) ∧ v = .slice A' t c' ∧ Ng cells 40 wr (fun _ => True) A' t c' ((rowL xs at_).take t) ∧ (∀ b, Bk A' b → w.heap.size ≤ b) ∧ Below w.heap.size w wr) (fun _ i _ => n - (intOf i).toNat)
  case atStart => exact ⟨0, none, 0, by omega, rfl, rfl, Ng.nil _ _, (fun b ⟨o, h⟩ => by cases h), Below.refl _ _⟩
  case round =>
    obtain ⟨t, A1, c1, ht, rfl, rfl, hg, hA1, hB⟩ := hrel
    have HA1 := Lib.hid hA1
    have HB := Lib.hid hB
    obtain ⟨AL, c, ds, ha, hxs⟩ := H0.out.later (layX k) hB
    have hl := xs_len hxs
    rw [← HN.out] at hl
    have c0 := ha.c0
    rw [hl] at c0
    obtain ⟨g, rfl, hgc⟩ := ha.at_ (by omega)
    clear hB
    by_cases hlt : t < n
    · have hti : (t : Int) < (n : Int) := by omega
      obtain ⟨vs, hv⟩ := hg.vs
      have HV := Lib.hid hv
      have hx : xs[t]? = some (xs[t]'(by have := HN.out; omega)) := List.getElem?_eq_getElem _
      obtain ⟨x, hxe⟩ : ∃ x, x = xs[t]'(by have := HN.out; omega) := ⟨_, rfl⟩
      rw [← hxe] at hx
      obtain ⟨d, hd, hdx⟩ := xs_at hxs hx
      have cg := hgc t d hd
      unfold Ds.ptr at cg
      obtain ⟨_, AL', cL', ls', AW', cW', ws', hg'⟩ : Rf wr d.S d.D k d.x := (ha.rep t d hd).1
      have hC := rfread_rn at_ h1 h2 hk hg'
      unfold RetRd9n at hC
      rw [hdx] at hC
      have HX := Lib.hid hx
      obtain ⟨l, hll⟩ : ∃ l, l = x.readL at_ := ⟨_, rfl⟩
      obtain ⟨ex, hex⟩ : ∃ ex, ex = x.readX at_ := ⟨_, rfl⟩
      rw [← hll, ← hex] at hC
      have HL := Lib.hid hll
      clear hg hv hx hxe hd hdx hgc ha hxs hg' hll hex hl
      go_wp2_with fail
      refine hC.mono ?_; clear hC; rintro e w3 ⟨A3, n3, c3, rfl, hr3, hb3⟩
      obtain rfl : l.length = n3 := by have := hr3.sl.len; rw [cells_length] at this; omega
      have RN3 := Lib.hid (HV.out.rn.later hb3)
      have HR3 := Lib.hid hr3
      have HB3 := Lib.hid hb3
      clear hr3 hb3 c0 cg
      go_wp2_with (at_builtin; refine wpList_append_made (w := w3) (T := 40) (v := .slice A3 l.length c3) rfl (.tmp 30) (.tmp 32) 38 38 rfl i0 (.slice none 0 0) 24 Try.underlying38 Try.underlying38 Hi.out Hz0.out Hz1.out Hz2.out rfl (by decide) rfl RN3.out rfl rfl (by omega) ?pe)
      intro A4 c4 w4 hrn4 hf4 ho4
      have NG4 := Lib.hid (show Ng cells 40 w4 (fun _ => True) A4 (t + 1) c4 ((rowL xs at_).take (t + 1)) by
        rw [take_next (rowL_at HX.out), ← HL.out]
        have hv3 : Ngv cells 40 w3 (fun _ => True) A1 t c1 ((rowL xs at_).take t) vs := ⟨RN3.out, fun i r hi => by
          obtain ⟨A', c', g1, g2, g3⟩ := HV.out.row i r hi
          exact ⟨A', c', g1, g2.below HB3.out (Nat.le_refl _), g3⟩, HV.out.len, HV.out.blk⟩
        refine hv3.push (r := l) (A2 := A3) (c2 := c3) (fun b hb => hb) HR3.out.sl (fun b o hn hA => ⟨trivial, fun hq => ?_⟩) hrn4 hf4 ho4 (fun b hb hlo => trivial)
        exact Rn.ne RN3.out HR3.out (by decide) hq ⟨o, hA⟩)
      have HA4 := Lib.hid (show ∀ b, Bk A4 b → w.heap.size ≤ b from fun b hb => by
        rcases ho4 with rfl | ⟨g, rfl, hg⟩
        · exact HA1.out b hb
        · obtain ⟨o, hb⟩ := hb
          injection hb with hb
          injection hb with hb _
          have := HB.out.size
          have := HB3.out.size
          omega)
      have HB4 := Lib.hid (show Below w.heap.size w w4 from (HB.out.trans (HB3.out.mono HB.out.size)).trans (hf4.below (by have := HB.out.size; have := HB3.out.size; omega) HA1.out))
      clear hrn4 hf4 ho4
      go_wp2_with fail
      go_roundw
      case rel => exact ⟨t + 1, A4, c4, by omega, by go_num, rfl, NG4.out, HA4.out, HB4.out⟩
      case measure => simp [intOf]; omega
    · obtain rfl : t = n := by omega
      have hti : ¬ (t : Int) < (t : Int) := by omega
      have HNs := Lib.hid (show Ns cells wr (fun _ => True) A1 t c1 (rowL xs at_) by
        have h := hg.ns
        rw [List.take_of_length_le (by rw [rowL_len]; have := HN.out; omega)] at h
        exact h)
      clear hg hgc ha hxs hl
      go_wp2_with fail
      go_ret
      exact ⟨A1, c1, rfl, HNs.out, HB.out⟩
theorem rxcrash_any (h : RX k w S A xs) (h0 : 0 < xs.length) (hx255 : xs.length ≤ 255) (hk : k ≤ 100000) {A2 : Option Addr} {m c2 : Nat} {kss : List (List Bool)} {T : Nat → Prop} (hks : Ns bcells w T A2 m c2 kss) (hT : ∀ b, T b → ¬ S b) :
    Calls Try.prog 38 #[.pointer (some ⟨A, 0, none⟩), .slice A2 m c2] w fun e w' => e = .returned (.tuple #[]) ∧ MutX k S A (crashS xs kss xs.length) w w' := by
  have hkl := hks.len
  have HK := Lib.hid hks
  have HT := Lib.hid hT
  have H0 := Lib.hid h
  obtain ⟨n, hn⟩ : ∃ n, n = xs.length := ⟨_, rfl⟩
  rw [← hn] at h0 hx255 ⊢
  have HN := Lib.hid hn
  have hmx : m ≤ maxLen := Nat.le_trans hks.capLe.1 hks.capLe.2
  unfold maxLen at hmx
  clear h hn hks hT
  go_enter Try.func38, Try.ntmps38
  go_wp2_with fail
  go_loopw [4] (fun i wr => ∃ (t : Nat) (S' : Nat → Prop), t ≤ n ∧ i = .int .i64 (t : Int) ∧ RX k wr S' A (crashS xs kss t) ∧ Nxt S S' w wr) (fun i _ => n - (intOf i).toNat)
  case atStart => exact ⟨0, S, by omega, rfl, by rw [crashS, upTo_zero]; exact H0.out, Nxt.refl _ _⟩
  case round =>
    obtain ⟨t, S', ht, rfl, ha, hnx⟩ := hrel
    have HM0 := Lib.hid (show RX k wr S' A (crashS xs kss t) from ha)
    have HNX := Lib.hid hnx
    obtain ⟨AL, c, ds, ha, hxs⟩ := ha
    have hl := xs_len hxs
    rw [crashS, upTo_len, ← HN.out] at hl
    have c0 := ha.c0
    rw [hl] at c0
    obtain ⟨g, rfl, hg⟩ := ha.at_ (by omega)
    by_cases hlt : t < n
    · have hti : (t : Int) < (n : Int) := by omega
      have hx : xs[t]? = some (xs[t]'(by have := HN.out; omega)) := List.getElem?_eq_getElem _
      obtain ⟨x, hxe⟩ : ∃ x, x = xs[t]'(by have := HN.out; omega) := ⟨_, rfl⟩
      rw [← hxe] at hx
      obtain ⟨d, hd, hdx⟩ := xs_at hxs (upTo_here hx)
      have cg := hg t d hd
      unfold Ds.ptr at cg
      have hkr := HK.out.fr hnx.1 HT.out
      have hout : ∀ b, T b → b < w.heap.size → ¬ d.S b := fun b hb hb2 hq => (hnx.2 b ((ha.rep t d hd).2.2.2 b hq)).elim (HT.out b hb) (fun q => by omega)
      have hrep : Rf wr d.S d.D k d.x := (ha.rep t d hd).1
      have HA := Lib.hid ha
      have HXS := Lib.hid hxs
      have HD := Lib.hid hd
      have HX := Lib.hid hx
      have key : ∀ (W : World) (A3 : Option Addr) (n3 c3 : Nat) (ks : List Bool), Below wr.heap.size wr W → ks = kss.getD t [] → Sl W 1 A3 n3 c3 (bcells ks) → (∀ b o, 0 < n3 → A3 = some ⟨b, o, none⟩ → ¬ d.S b) → Calls Try.prog 71 #[.pointer (some ⟨d.D, 0, none⟩), .slice A3 n3 c3] W fun e w2 => e = .returned (.tuple #[]) ∧ Fr d.S W w2 ∧ ∃ S3, RX k w2 S3 A (crashS xs kss (t + 1)) ∧ Nxt S S3 w w2 := by
        intro W A3 n3 c3 ks hbW hks hs ho
        refine (rfcrash_any A3 n3 c3 ks hk (Rf.fr hrep (Fr.of_below hbW : Fr (fun _ => False) _ _) (fun _ _ q => q)) hs ho).mono ?_
        rintro e w2 ⟨rfl, S2, hr2, hf2, hs2⟩
        obtain ⟨S3, har, hn3⟩ := (HA.out.later (layX k) hbW).turn (layX k) (layX k) (fun _ _ _ _ q => q) HXS.out HD.out hr2 hf2 hs2
        refine ⟨rfl, hf2, S3, ?_, HNX.out.trans (hn3.below hbW)⟩
        rw [crashS, hks, hdx, upTo_set (F := fun i x => x.crash (kss.getD i [])) HX.out] at har
        exact har
      by_cases hm : t < m
      · have htm : (t : Int) < (m : Int) := by omega
        have hkt : kss[t]? = some (kss[t]'(by omega)) := List.getElem?_eq_getElem _
        obtain ⟨ks, hke⟩ : ∃ ks, ks = kss[t]'(by omega) := ⟨_, rfl⟩
        rw [← hke] at hkt
        obtain ⟨b, o, rfl, hTb, hc⟩ := hkr.at_ (by omega)
        obtain ⟨A3, c3, hcell, hs3, hb3⟩ := hc t ks hkt
        obtain ⟨b', o', hbo, _, hc0⟩ := HK.out.at_ (by omega)
        injection hbo with hbo
        injection hbo with hbb hoo
        subst hbb hoo
        obtain ⟨A4, c4, hcell0, hs0, hb0⟩ := hc0 t ks hkt
        have he := hnx.1.cell_some hcell0 (HT.out _ (by assumption))
        rw [hcell] at he
        injection he with he
        injection he with he1 _ he3
        subst he1 he3
        have hbw : b < w.heap.size := World.block_lt_of_cell? w _ hcell0
        have HC := Lib.hid (key wr.drew A3 ks.length c3 ks (Below.drew (Below.refl _ _)) (getD_at hkt).symm hs3.drew (fun b o hn hA => hout b (hb3 b o hn hA) (hs0.lt (by decide) hn hA)))
        have C0 := Lib.hid (show wr.drew.cell? ⟨A, 0, none⟩ = some (.slice (some ⟨g, 0, none⟩) n c) from c0)
        have CG := Lib.hid (show wr.drew.cell? ⟨g, t, none⟩ = some (.pointer (some ⟨d.D, 0, none⟩)) from cg)
        have CR := Lib.hid (show wr.drew.cell? ⟨b, o + t, none⟩ = some (.slice A3 ks.length c3) from hcell)
        have N0 := Lib.hid (show ¬ d.S A from (ha.rep t d hd).2.1)
        have NG := Lib.hid (show ¬ d.S g from (ha.rep t d hd).2.2.1 g ⟨0, rfl⟩)
        have NR := Lib.hid (show ¬ d.S b from hout b hTb hbw)
        clear key hs3 hb3 hs0 hb0 hc hc0 hcell0 hkr hout hke hkt hrep ha hxs hd hx hnx hg hxe hdx hbw hTb
        go_wp2_with fail
        clear c0 cg hcell
        refine wp_region_held_drew (S := fun w' => Fr (d.S) wr.drew w') (by kernel_rfl) (Fr.refl _ _) (fun hHeld => ?_)
        clear hHeld
        refine wpAnyH_take (i := 0) (oi := ⟨some 18, _, _, _, _, _⟩) (v := ?vc0) rfl (by kernel_rfl) (by kernel_rfl) (by kernel_rfl) (fun _ _ _ h => h) (Or.inl ⟨by rfl, ?yc0⟩) (Fr.refl _ _) ?rc0
        case yc0 =>
          intro wq hSw
          (try dsimp only at hSw)
          first | (go_simp; done) | (go_simp; with_reducible rfl)
        try simp only [Act.put, List.setIfInBounds_toArray, List.set_cons_zero, List.set_cons_succ]
        refine wpAnyH_take (i := 1) (oi := ⟨some 19, _, _, _, _, _⟩) (v := ?vc1) rfl (by kernel_rfl) (by kernel_rfl) (by kernel_rfl) (fun _ _ _ h => h) (Or.inl ⟨by rfl, ?yc1⟩) (Fr.refl _ _) ?rc1
        case yc1 =>
          intro wq hSw
          (try dsimp only at hSw)
          first | (go_simp; done) | (go_simp; with_reducible rfl)
        try simp only [Act.put, List.setIfInBounds_toArray, List.set_cons_zero, List.set_cons_succ]
        refine wpAnyH_take (i := 2) (oi := ⟨some 20, _, _, _, _, _⟩) (v := ?vc2) rfl (by kernel_rfl) (by kernel_rfl) (by kernel_rfl) (fun _ _ _ h => h) (Or.inl ⟨by rfl, ?yc2⟩) (Fr.refl _ _) ?rc2
        case yc2 =>
          intro wq hSw
          (try dsimp only at hSw)
          first | (go_simp; done) | (go_simp; with_reducible rfl)
        try simp only [Act.put, List.setIfInBounds_toArray, List.set_cons_zero, List.set_cons_succ]
        refine wpAnyH_take (i := 3) (oi := ⟨some 21, _, _, _, _, _⟩) (v := ?vc3) rfl (by kernel_rfl) (by kernel_rfl) (by kernel_rfl) (fun _ _ _ h => h) (Or.inl ⟨by rfl, ?yc3⟩) (Fr.refl _ _) ?rc3
        case yc3 =>
          intro wq hSw
          (try dsimp only at hSw)
          have hq := hSw.cell_some C0.out N0.out
          first | (go_simp; done) | (go_simp; with_reducible rfl)
        try simp only [Act.put, List.setIfInBounds_toArray, List.set_cons_zero, List.set_cons_succ]
        refine wpAnyH_take (i := 4) (oi := ⟨some 22, _, _, _, _, _⟩) (v := ?vc4) rfl (by kernel_rfl) (by kernel_rfl) (by kernel_rfl) (fun _ _ _ h => h) (Or.inl ⟨by rfl, ?yc4⟩) (Fr.refl _ _) ?rc4
        case yc4 =>
          intro wq hSw
          (try dsimp only at hSw)
          first | (go_simp; done) | (go_simp; with_reducible rfl)
        try simp only [Act.put, List.setIfInBounds_toArray, List.set_cons_zero, List.set_cons_succ]
        refine wpAnyH_take (i := 5) (oi := ⟨some 23, _, _, _, _, _⟩) (v := ?vc5) rfl (by kernel_rfl) (by kernel_rfl) (by kernel_rfl) (fun _ _ _ h => h) (Or.inl ⟨by rfl, ?yc5⟩) (Fr.refl _ _) ?rc5
        case yc5 =>
          intro wq hSw
          (try dsimp only at hSw)
          first | (go_simp; done) | (go_simp; with_reducible rfl)
        try simp only [Act.put, List.setIfInBounds_toArray, List.set_cons_zero, List.set_cons_succ]
        refine wpAnyH_take (i := 6) (oi := ⟨some 24, _, _, _, _, _⟩) (v := ?vc6) rfl (by kernel_rfl) (by kernel_rfl) (by kernel_rfl) (fun _ _ _ h => h) (Or.inl ⟨by rfl, ?yc6⟩) (Fr.refl _ _) ?rc6
        case yc6 =>
          intro wq hSw
          (try dsimp only at hSw)
          have hq := hSw.cell_some CG.out NG.out
          first | (go_simp; done) | (go_simp; with_reducible rfl)
        try simp only [Act.put, List.setIfInBounds_toArray, List.set_cons_zero, List.set_cons_succ]
        refine wpAnyH_take (i := 7) (oi := ⟨some 25, _, _, _, _, _⟩) (v := ?vc7) rfl (by kernel_rfl) (by kernel_rfl) (by kernel_rfl) (fun _ _ _ h => h) (Or.inl ⟨by rfl, ?yc7⟩) (Fr.refl _ _) ?rc7
        case yc7 =>
          intro wq hSw
          (try dsimp only at hSw)
          first | (go_simp; done) | (go_simp; with_reducible rfl)
        try simp only [Act.put, List.setIfInBounds_toArray, List.set_cons_zero, List.set_cons_succ]
        refine wpAnyH_take (i := 8) (oi := ⟨some 26, _, _, _, _, _⟩) (v := ?vc8) rfl (by kernel_rfl) (by kernel_rfl) (by kernel_rfl) (fun _ _ _ h => h) (Or.inl ⟨by rfl, ?yc8⟩) (Fr.refl _ _) ?rc8
        case yc8 =>
          intro wq hSw
          (try dsimp only at hSw)
          first | (go_simp; done) | (go_simp; with_reducible rfl)
        try simp only [Act.put, List.setIfInBounds_toArray, List.set_cons_zero, List.set_cons_succ]
        refine wpAnyH_take (i := 9) (oi := ⟨some 27, _, _, _, _, _⟩) (v := ?vc9) rfl (by kernel_rfl) (by kernel_rfl) (by kernel_rfl) (fun _ _ _ h => h) (Or.inl ⟨by rfl, ?yc9⟩) (Fr.refl _ _) ?rc9
        case yc9 =>
          intro wq hSw
          (try dsimp only at hSw)
          first | (go_simp; done) | (go_simp; with_reducible rfl)
        try simp only [Act.put, List.setIfInBounds_toArray, List.set_cons_zero, List.set_cons_succ]
        refine wpAnyH_take (i := 10) (oi := ⟨some 28, _, _, _, _, _⟩) (v := ?vc10) rfl (by kernel_rfl) (by kernel_rfl) (by kernel_rfl) (fun _ _ _ h => h) (Or.inl ⟨by rfl, ?yc10⟩) (Fr.refl _ _) ?rc10
        case yc10 =>
          intro wq hSw
          (try dsimp only at hSw)
          have hq := hSw.cell_some CR.out NR.out
          first | (go_simp; done) | (go_simp; with_reducible rfl)
        try simp only [Act.put, List.setIfInBounds_toArray, List.set_cons_zero, List.set_cons_succ]
        refine wpAnyH_ready (rs := [11]) (by kernel_rfl) (by simp) ?_
        refine AllReadyH.cons (o := ⟨some 29, _, _, _, _, _⟩) rfl (fun K hK => ?_) AllReadyH.nil
        go_simp
        refine HC.out.mono ?_; rintro e w2 ⟨rfl, hfr, S3, har, hn3⟩
        have HAR := Lib.hid har
        have HN3 := Lib.hid hn3
        clear har hn3
        go_wp2_with fail
        refine hK.out _ _ hfr (fun hHeld => ?_)
        clear hK K hHeld
        try simp only [Act.put, List.setIfInBounds_toArray, List.set_cons_zero, List.set_cons_succ]
        refine wpAnyH_re (S' := fun w' => Fr (d.S) w2 w') (fun w' h => hfr.trans h) ?_
        clear hfr
        refine wpAnyH_done (by kernel_rfl) ?_ _
        go_wp2_with fail
        go_roundw
        case rel => exact ⟨t + 1, S3, by omega, by go_num, HAR.out, HN3.out⟩
        case measure => simp [intOf]; omega
      · have htm : ¬ (t : Int) < (m : Int) := by omega
        have hC := key wr none 0 0 [] (Below.refl _ _) (by rw [List.getD_eq_getElem?_getD, List.getElem?_eq_none (by omega)]; rfl) (Sl.nil _ 1 0 (by decide)) (fun b o hn => absurd hn (Nat.lt_irrefl _))
        clear key hkr hout hrep ha hxs hd hx hnx hg hxe hdx
        go_wp2_with fail
        refine hC.mono ?_; clear hC; rintro e w2 ⟨rfl, _, S3, har, hn3⟩
        have HAR := Lib.hid har
        have HN3 := Lib.hid hn3
        clear har hn3 c0 cg
        go_wp2_with fail
        go_roundw
        case rel => exact ⟨t + 1, S3, by omega, by go_num, HAR.out, HN3.out⟩
        case measure => simp [intOf]; omega
    · obtain rfl : t = n := by omega
      have hti : ¬ (t : Int) < (t : Int) := by omega
      have HM := Lib.hid (show MutX k S A (crashS xs kss t) w wr from ⟨S', HM0.out, HNX.out⟩)
      clear ha hnx hxs hg hl
      go_wp2_with fail
      go_end0
      exact ⟨rfl, HM.out⟩
theorem rxputrow_any (h : RX k w S A xs) (h0 : 0 < xs.length) (hx255 : xs.length ≤ 255) (hk : k + xs.length ≤ 100000) (z : Int) (h1 : -9223372036854775808 ≤ z) (h2 : z < 9223372036854775808) {A2 : Option Addr} {m c2 : Nat} {rs : List (List UInt8)} {T : Nat → Prop} (hks : Ns cells w T A2 m c2 rs) (hT : ∀ b, T b → ¬ S b) :
    Calls Try.prog 42 #[.pointer (some ⟨A, 0, none⟩), .int .i64 z, .slice A2 m c2] w fun e w' => e = .returned (.int .i64 (putN xs rs z (min xs.length m) : Nat)) ∧ MutX (k + xs.length) S A (putS xs rs z (min xs.length m)) w w' := by
  have hkl := hks.len
  have HK := Lib.hid hks
  have HT := Lib.hid hT
  have H0 := Lib.hid h
  have hmx : m ≤ maxLen := Nat.le_trans hks.capLe.1 hks.capLe.2
  unfold maxLen at hmx
  obtain ⟨n, hn⟩ : ∃ n, n = xs.length := ⟨_, rfl⟩
  rw [← hn] at h0 hx255 hk ⊢
  obtain ⟨q, hq⟩ : ∃ q, q = min n m := ⟨_, rfl⟩
  rw [← hq]
  have hqn : q ≤ n := by omega
  have hqm : q ≤ m := by omega
  obtain ⟨r, hr⟩ : ∃ r, r = putN xs rs z q := ⟨_, rfl⟩
  rw [← hr]
  have HQ := Lib.hid hq
  have HR := Lib.hid hr
  have HN := Lib.hid hn
  clear h hn hks hT hq hr
  go_enter Try.func42, Try.ntmps42
  go_wp2_with fail
  go_loopw [7, 8] (fun v i wr => ∃ (t y : Nat) (S' : Nat → Prop), t ≤ q ∧ y = putN xs rs z t ∧ y ≤ t ∧ i = .int .i64 (t : Int) ∧ v = .int .i64 (y : Int) ∧ RX (k + t) wr S' A (putS xs rs z t) ∧ Nxt S S' w wr) (fun _ i _ => q - (intOf i).toNat)
  case atStart => exact ⟨0, 0, S, by omega, by simp [putN, putA], by omega, rfl, rfl, by rw [putS, upTo_zero]; exact H0.out, Nxt.refl _ _⟩
  case round =>
    obtain ⟨t, y, S', ht, hy, hyt, rfl, rfl, ha, hnx⟩ := hrel
    have HM0 := Lib.hid (show RX (k + t) wr S' A (putS xs rs z t) from ha)
    have HNX := Lib.hid hnx
    obtain ⟨AL, c, ds, ha, hxs⟩ := ha
    have hl := xs_len hxs
    rw [putS, upTo_len, ← HN.out] at hl
    have c0 := ha.c0
    rw [hl] at c0
    obtain ⟨g, rfl, hg⟩ := ha.at_ (by omega)
    by_cases hlt : t < q
    · have hti : (t : Int) < (n : Int) := by omega
      have htm : (t : Int) < (m : Int) := by omega
      have hx : xs[t]? = some (xs[t]'(by have := HN.out; omega)) := List.getElem?_eq_getElem _
      obtain ⟨x, hxe⟩ : ∃ x, x = xs[t]'(by have := HN.out; omega) := ⟨_, rfl⟩
      rw [← hxe] at hx
      have hrt : rs[t]? = some (rs[t]'(by omega)) := List.getElem?_eq_getElem _
      obtain ⟨ro, hroe⟩ : ∃ ro, ro = rs[t]'(by omega) := ⟨_, rfl⟩
      rw [← hroe] at hrt
      obtain ⟨d, hd, hdx⟩ := xs_at hxs (upTo_here hx)
      have cg := hg t d hd
      unfold Ds.ptr at cg
      have hkr := HK.out.fr hnx.1 HT.out
      obtain ⟨b, o, rfl, hTb, hc⟩ := hkr.at_ (by omega)
      obtain ⟨A3, c3, hcell, hs3, hb3⟩ := hc t ro hrt
      have hbw : b < w.heap.size := by
        obtain ⟨b', o', hbo, _, hc0⟩ := HK.out.at_ (by omega)
        injection hbo with hbo
        injection hbo with hbb hoo
        subst hbb hoo
        obtain ⟨A4, c4, hcell0, _⟩ := hc0 t ro hrt
        exact World.block_lt_of_cell? w _ hcell0
      have hdS := (ha.rep t d hd).2.2.2
      have hrep : Rf wr d.S d.D (k + t) d.x := (ha.rep t d hd).1
      have HA := Lib.hid ha
      have HXS := Lib.hid hxs
      have HD := Lib.hid hd
      have HX := Lib.hid hx
      have HRT := Lib.hid hrt
      have HY := Lib.hid hy
      have C0 := Lib.hid (show wr.drew.cell? ⟨A, 0, none⟩ = some (.slice (some ⟨g, 0, none⟩) n c) from c0)
      have CG := Lib.hid (show wr.drew.cell? ⟨g, t, none⟩ = some (.pointer (some ⟨d.D, 0, none⟩)) from cg)
      have CR := Lib.hid (show wr.drew.cell? ⟨b, o + t, none⟩ = some (.slice A3 ro.length c3) from hcell)
      have N0 := Lib.hid (show ¬ d.S A from (ha.rep t d hd).2.1)
      have NG := Lib.hid (show ¬ d.S g from (ha.rep t d hd).2.2.1 g ⟨0, rfl⟩)
      have NR := Lib.hid (show ¬ d.S b from fun q => (hnx.2 b (hdS b q)).elim (HT.out b hTb) (fun q => by omega))
      have hcn := putN_next (z := z) hx hrt
      rw [← hy] at hcn
      by_cases hro : 0 < ro.length
      · have hroi : (0 : Int) < (ro.length : Int) := by omega
        have hC := rfwrite_any z A3 ro.length c3 ro h1 h2 (by omega) (Rf.fr hrep (Fr.drew (Fr.refl (fun _ => False) wr)) (fun _ _ q => q)) hs3.drew
        rw [hdx] at hC
        obtain ⟨v, hv⟩ : ∃ v, v = x.writeX z ro := ⟨_, rfl⟩
        rw [← hv] at hC hcn
        have HC := Lib.hid hC
        by_cases hv0 : v = 0
        · rw [if_pos ⟨hro, hv0⟩] at hcn
          have HCN := Lib.hid hcn
          have HV0 := Lib.hid (show decide (v = 0) = true from decide_eq_true hv0)
          clear hcn hC hv hv0 hs3 hb3 hc hkr hdS hrep ha hxs hd hx hnx hg hxe hdx hrt hroe hTb hy hbw
          go_wp2_with fail
          clear c0 cg hcell
          refine wp_region_held_drew (S := fun w' => Fr (d.S) wr.drew w') (by kernel_rfl) (Fr.refl _ _) (fun hHeld => ?_)
          clear hHeld
          refine wpAnyH_take (i := 0) (oi := ⟨some 24, _, _, _, _, _⟩) (v := ?va0) rfl (by kernel_rfl) (by kernel_rfl) (by kernel_rfl) (fun _ _ _ h => h) (Or.inl ⟨by rfl, ?ya0⟩) (Fr.refl _ _) ?ra0
          case ya0 =>
            intro wq hSw
            (try dsimp only at hSw)
            first | (go_simp; done) | (go_simp; with_reducible rfl)
          try simp only [Act.put, List.setIfInBounds_toArray, List.set_cons_zero, List.set_cons_succ]
          refine wpAnyH_take (i := 1) (oi := ⟨some 25, _, _, _, _, _⟩) (v := ?va1) rfl (by kernel_rfl) (by kernel_rfl) (by kernel_rfl) (fun _ _ _ h => h) (Or.inl ⟨by rfl, ?ya1⟩) (Fr.refl _ _) ?ra1
          case ya1 =>
            intro wq hSw
            (try dsimp only at hSw)
            first | (go_simp; done) | (go_simp; with_reducible rfl)
          try simp only [Act.put, List.setIfInBounds_toArray, List.set_cons_zero, List.set_cons_succ]
          refine wpAnyH_take (i := 2) (oi := ⟨some 26, _, _, _, _, _⟩) (v := ?va2) rfl (by kernel_rfl) (by kernel_rfl) (by kernel_rfl) (fun _ _ _ h => h) (Or.inl ⟨by rfl, ?ya2⟩) (Fr.refl _ _) ?ra2
          case ya2 =>
            intro wq hSw
            (try dsimp only at hSw)
            first | (go_simp; done) | (go_simp; with_reducible rfl)
          try simp only [Act.put, List.setIfInBounds_toArray, List.set_cons_zero, List.set_cons_succ]
          refine wpAnyH_take (i := 3) (oi := ⟨some 27, _, _, _, _, _⟩) (v := ?va3) rfl (by kernel_rfl) (by kernel_rfl) (by kernel_rfl) (fun _ _ _ h => h) (Or.inl ⟨by rfl, ?ya3⟩) (Fr.refl _ _) ?ra3
          case ya3 =>
            intro wq hSw
            (try dsimp only at hSw)
            have hq := hSw.cell_some CR.out NR.out
            first | (go_simp; done) | (go_simp; with_reducible rfl)
          try simp only [Act.put, List.setIfInBounds_toArray, List.set_cons_zero, List.set_cons_succ]
          refine wpAnyH_take (i := 4) (oi := ⟨some 28, _, _, _, _, _⟩) (v := ?va4) rfl (by kernel_rfl) (by kernel_rfl) (by kernel_rfl) (fun _ _ _ h => h) (Or.inl ⟨by rfl, ?ya4⟩) (Fr.refl _ _) ?ra4
          case ya4 =>
            intro wq hSw
            (try dsimp only at hSw)
            first | (go_simp; done) | (go_simp; with_reducible rfl)
          try simp only [Act.put, List.setIfInBounds_toArray, List.set_cons_zero, List.set_cons_succ]
          refine wpAnyH_take (i := 5) (oi := ⟨some 29, _, _, _, _, _⟩) (v := ?va5) rfl (by kernel_rfl) (by kernel_rfl) (by kernel_rfl) (fun _ _ _ h => h) (Or.inl ⟨by rfl, ?ya5⟩) (Fr.refl _ _) ?ra5
          case ya5 =>
            intro wq hSw
            (try dsimp only at hSw)
            first | (go_simp; done) | (go_simp; with_reducible rfl)
          try simp only [Act.put, List.setIfInBounds_toArray, List.set_cons_zero, List.set_cons_succ]
          refine wpAnyH_take (i := 6) (oi := ⟨some 30, _, _, _, _, _⟩) (v := ?va6) rfl (by kernel_rfl) (by kernel_rfl) (by kernel_rfl) (fun _ _ _ h => h) (Or.inl ⟨by rfl, ?ya6⟩) (Fr.refl _ _) ?ra6
          case ya6 =>
            intro wq hSw
            (try dsimp only at hSw)
            first | (go_simp; done) | (go_simp; with_reducible rfl)
          try simp only [Act.put, List.setIfInBounds_toArray, List.set_cons_zero, List.set_cons_succ]
          refine wpAnyH_take (i := 7) (oi := ⟨some 31, _, _, _, _, _⟩) (v := ?va7) rfl (by kernel_rfl) (by kernel_rfl) (by kernel_rfl) (fun _ _ _ h => h) (Or.inl ⟨by rfl, ?ya7⟩) (Fr.refl _ _) ?ra7
          case ya7 =>
            intro wq hSw
            (try dsimp only at hSw)
            first | (go_simp; done) | (go_simp; with_reducible rfl)
          try simp only [Act.put, List.setIfInBounds_toArray, List.set_cons_zero, List.set_cons_succ]
          refine wpAnyH_take (i := 8) (oi := ⟨some 32, _, _, _, _, _⟩) (v := ?va8) rfl (by kernel_rfl) (by kernel_rfl) (by kernel_rfl) (fun _ _ _ h => h) (Or.inl ⟨by rfl, ?ya8⟩) (Fr.refl _ _) ?ra8
          case ya8 =>
            intro wq hSw
            (try dsimp only at hSw)
            first | (go_simp; done) | (go_simp; with_reducible rfl)
          try simp only [Act.put, List.setIfInBounds_toArray, List.set_cons_zero, List.set_cons_succ]
          refine wpAnyH_take (i := 9) (oi := ⟨some 33, _, _, _, _, _⟩) (v := ?va9) rfl (by kernel_rfl) (by kernel_rfl) (by kernel_rfl) (fun _ _ _ h => h) (Or.inl ⟨by rfl, ?ya9⟩) (Fr.refl _ _) ?ra9
          case ya9 =>
            intro wq hSw
            (try dsimp only at hSw)
            first | (go_simp; done) | (go_simp; with_reducible rfl)
          try simp only [Act.put, List.setIfInBounds_toArray, List.set_cons_zero, List.set_cons_succ]
          refine wpAnyH_take (i := 10) (oi := ⟨some 34, _, _, _, _, _⟩) (v := ?va10) rfl (by kernel_rfl) (by kernel_rfl) (by kernel_rfl) (fun _ _ _ h => h) (Or.inl ⟨by rfl, ?ya10⟩) (Fr.refl _ _) ?ra10
          case ya10 =>
            intro wq hSw
            (try dsimp only at hSw)
            have hq := hSw.cell_some C0.out N0.out
            first | (go_simp; done) | (go_simp; with_reducible rfl)
          try simp only [Act.put, List.setIfInBounds_toArray, List.set_cons_zero, List.set_cons_succ]
          refine wpAnyH_take (i := 11) (oi := ⟨some 35, _, _, _, _, _⟩) (v := ?va11) rfl (by kernel_rfl) (by kernel_rfl) (by kernel_rfl) (fun _ _ _ h => h) (Or.inl ⟨by rfl, ?ya11⟩) (Fr.refl _ _) ?ra11
          case ya11 =>
            intro wq hSw
            (try dsimp only at hSw)
            first | (go_simp; done) | (go_simp; with_reducible rfl)
          try simp only [Act.put, List.setIfInBounds_toArray, List.set_cons_zero, List.set_cons_succ]
          refine wpAnyH_take (i := 12) (oi := ⟨some 36, _, _, _, _, _⟩) (v := ?va12) rfl (by kernel_rfl) (by kernel_rfl) (by kernel_rfl) (fun _ _ _ h => h) (Or.inl ⟨by rfl, ?ya12⟩) (Fr.refl _ _) ?ra12
          case ya12 =>
            intro wq hSw
            (try dsimp only at hSw)
            first | (go_simp; done) | (go_simp; with_reducible rfl)
          try simp only [Act.put, List.setIfInBounds_toArray, List.set_cons_zero, List.set_cons_succ]
          refine wpAnyH_take (i := 13) (oi := ⟨some 37, _, _, _, _, _⟩) (v := ?va13) rfl (by kernel_rfl) (by kernel_rfl) (by kernel_rfl) (fun _ _ _ h => h) (Or.inl ⟨by rfl, ?ya13⟩) (Fr.refl _ _) ?ra13
          case ya13 =>
            intro wq hSw
            (try dsimp only at hSw)
            have hq := hSw.cell_some CG.out NG.out
            first | (go_simp; done) | (go_simp; with_reducible rfl)
          try simp only [Act.put, List.setIfInBounds_toArray, List.set_cons_zero, List.set_cons_succ]
          refine wpAnyH_take (i := 14) (oi := ⟨some 38, _, _, _, _, _⟩) (v := ?va14) rfl (by kernel_rfl) (by kernel_rfl) (by kernel_rfl) (fun _ _ _ h => h) (Or.inl ⟨by rfl, ?ya14⟩) (Fr.refl _ _) ?ra14
          case ya14 =>
            intro wq hSw
            (try dsimp only at hSw)
            first | (go_simp; done) | (go_simp; with_reducible rfl)
          try simp only [Act.put, List.setIfInBounds_toArray, List.set_cons_zero, List.set_cons_succ]
          refine wpAnyH_take (i := 15) (oi := ⟨some 39, _, _, _, _, _⟩) (v := ?va15) rfl (by kernel_rfl) (by kernel_rfl) (by kernel_rfl) (fun _ _ _ h => h) (Or.inl ⟨by rfl, ?ya15⟩) (Fr.refl _ _) ?ra15
          case ya15 =>
            intro wq hSw
            (try dsimp only at hSw)
            first | (go_simp; done) | (go_simp; with_reducible rfl)
          try simp only [Act.put, List.setIfInBounds_toArray, List.set_cons_zero, List.set_cons_succ]
          refine wpAnyH_take (i := 16) (oi := ⟨some 40, _, _, _, _, _⟩) (v := ?va16) rfl (by kernel_rfl) (by kernel_rfl) (by kernel_rfl) (fun _ _ _ h => h) (Or.inl ⟨by rfl, ?ya16⟩) (Fr.refl _ _) ?ra16
          case ya16 =>
            intro wq hSw
            (try dsimp only at hSw)
            first | (go_simp; done) | (go_simp; with_reducible rfl)
          try simp only [Act.put, List.setIfInBounds_toArray, List.set_cons_zero, List.set_cons_succ]
          refine wpAnyH_take (i := 17) (oi := ⟨some 41, _, _, _, _, _⟩) (v := ?va17) rfl (by kernel_rfl) (by kernel_rfl) (by kernel_rfl) (fun _ _ _ h => h) (Or.inl ⟨by rfl, ?ya17⟩) (Fr.refl _ _) ?ra17
          case ya17 =>
            intro wq hSw
            (try dsimp only at hSw)
            first | (go_simp; done) | (go_simp; with_reducible rfl)
          try simp only [Act.put, List.setIfInBounds_toArray, List.set_cons_zero, List.set_cons_succ]
          refine wpAnyH_take (i := 18) (oi := ⟨some 42, _, _, _, _, _⟩) (v := ?va18) rfl (by kernel_rfl) (by kernel_rfl) (by kernel_rfl) (fun _ _ _ h => h) (Or.inl ⟨by rfl, ?ya18⟩) (Fr.refl _ _) ?ra18
          case ya18 =>
            intro wq hSw
            (try dsimp only at hSw)
            have hq := hSw.cell_some CR.out NR.out
            first | (go_simp; done) | (go_simp; with_reducible rfl)
          try simp only [Act.put, List.setIfInBounds_toArray, List.set_cons_zero, List.set_cons_succ]
          refine wpAnyH_ready (rs := [19]) (by kernel_rfl) (by simp) ?_
          refine AllReadyH.cons (o := ⟨some 43, _, _, _, _, _⟩) rfl (fun K hK => ?_) AllReadyH.nil
          go_simp
          refine HC.out.mono ?_; rintro e w2 ⟨rfl, S2, hr2, hf2, hs2⟩
          have hbd : Below wr.heap.size wr wr.drew := Below.drew (Below.refl _ _)
          obtain ⟨S3, har, hn3⟩ := (HA.out.later (layX _) hbd).turn (layX (k + t)) (layX (k + t + 1)) (fun _ _ _ _ q => Rf.mono q (by omega)) HXS.out HD.out hr2 hf2 hs2
          have HM3 := Lib.hid (show RX (k + (t + 1)) w2 S3 A (putS xs rs z (t + 1)) by
            rw [putS, ← putF_yes (x := x) HRT.out hro, upTo_set (F := putF rs z) HX.out] at har
            exact har)
          have HN3 := Lib.hid (HNX.out.trans (hn3.below hbd))
          have hfr : Fr d.S wr.drew w2 := hf2
          clear hr2 hf2 hs2 har hn3 hbd
          go_wp2_with fail
          refine hK.out _ _ hfr (fun hHeld => ?_)
          clear hK K hHeld
          try simp only [Act.put, List.setIfInBounds_toArray, List.set_cons_zero, List.set_cons_succ]
          refine wpAnyH_re (S' := fun w' => Fr (d.S) w2 w') (fun w' h => hfr.trans h) ?_
          clear hfr
          refine wpAnyH_take (i := 20) (oi := ⟨some 44, _, _, _, _, _⟩) (v := (.bool true)) rfl (by kernel_rfl) (by kernel_rfl) (by kernel_rfl) (fun _ _ _ h => h) (Or.inl ⟨by rfl, ?ya20⟩) (Fr.refl _ _) ?ra20
          case ya20 =>
            intro wq hSw
            exact step_eqi10 (x := .tmp 43) (y := .const (.int .i64 0)) rfl rfl rfl HV0.out
          try simp only [Act.put, List.setIfInBounds_toArray, List.set_cons_zero, List.set_cons_succ]
          refine wpAnyH_take (i := 21) (oi := ⟨some 45, _, _, _, _, _⟩) (v := ?va21) rfl (by kernel_rfl) (by kernel_rfl) (by kernel_rfl) (fun _ _ _ h => h) (Or.inl ⟨by rfl, ?ya21⟩) (Fr.refl _ _) ?ra21
          case ya21 =>
            intro wq hSw
            (try dsimp only at hSw)
            first | (go_simp; done) | (go_simp; with_reducible rfl)
          try simp only [Act.put, List.setIfInBounds_toArray, List.set_cons_zero, List.set_cons_succ]
          refine wpAnyH_done (by kernel_rfl) ?_ _
          go_wp2_with fail
          go_roundw
          case rel => exact ⟨t + 1, y + 1, S3, by omega, HCN.out.symm, by omega, by go_num, by go_num, HM3.out, HN3.out⟩
          case measure => simp [intOf]; omega
        · rw [if_neg (fun p => hv0 p.2)] at hcn
          have HCN := Lib.hid hcn
          have HV0 := Lib.hid (show decide (v = 0) = false from decide_eq_false hv0)
          clear hcn hC hv hv0 hs3 hb3 hc hkr hdS hrep ha hxs hd hx hnx hg hxe hdx hrt hroe hTb hy hbw
          go_wp2_with fail
          clear c0 cg hcell
          refine wp_region_held_drew (S := fun w' => Fr (d.S) wr.drew w') (by kernel_rfl) (Fr.refl _ _) (fun hHeld => ?_)
          clear hHeld
          refine wpAnyH_take (i := 0) (oi := ⟨some 24, _, _, _, _, _⟩) (v := ?vb0) rfl (by kernel_rfl) (by kernel_rfl) (by kernel_rfl) (fun _ _ _ h => h) (Or.inl ⟨by rfl, ?yb0⟩) (Fr.refl _ _) ?rb0
          case yb0 =>
            intro wq hSw
            (try dsimp only at hSw)
            first | (go_simp; done) | (go_simp; with_reducible rfl)
          try simp only [Act.put, List.setIfInBounds_toArray, List.set_cons_zero, List.set_cons_succ]
          refine wpAnyH_take (i := 1) (oi := ⟨some 25, _, _, _, _, _⟩) (v := ?vb1) rfl (by kernel_rfl) (by kernel_rfl) (by kernel_rfl) (fun _ _ _ h => h) (Or.inl ⟨by rfl, ?yb1⟩) (Fr.refl _ _) ?rb1
          case yb1 =>
            intro wq hSw
            (try dsimp only at hSw)
            first | (go_simp; done) | (go_simp; with_reducible rfl)
          try simp only [Act.put, List.setIfInBounds_toArray, List.set_cons_zero, List.set_cons_succ]
          refine wpAnyH_take (i := 2) (oi := ⟨some 26, _, _, _, _, _⟩) (v := ?vb2) rfl (by kernel_rfl) (by kernel_rfl) (by kernel_rfl) (fun _ _ _ h => h) (Or.inl ⟨by rfl, ?yb2⟩) (Fr.refl _ _) ?rb2
          case yb2 =>
            intro wq hSw
            (try dsimp only at hSw)
            first | (go_simp; done) | (go_simp; with_reducible rfl)
          try simp only [Act.put, List.setIfInBounds_toArray, List.set_cons_zero, List.set_cons_succ]
          refine wpAnyH_take (i := 3) (oi := ⟨some 27, _, _, _, _, _⟩) (v := ?vb3) rfl (by kernel_rfl) (by kernel_rfl) (by kernel_rfl) (fun _ _ _ h => h) (Or.inl ⟨by rfl, ?yb3⟩) (Fr.refl _ _) ?rb3
          case yb3 =>
            intro wq hSw
            (try dsimp only at hSw)
            have hq := hSw.cell_some CR.out NR.out
            first | (go_simp; done) | (go_simp; with_reducible rfl)
          try simp only [Act.put, List.setIfInBounds_toArray, List.set_cons_zero, List.set_cons_succ]
          refine wpAnyH_take (i := 4) (oi := ⟨some 28, _, _, _, _, _⟩) (v := ?vb4) rfl (by kernel_rfl) (by kernel_rfl) (by kernel_rfl) (fun _ _ _ h => h) (Or.inl ⟨by rfl, ?yb4⟩) (Fr.refl _ _) ?rb4
          case yb4 =>
            intro wq hSw
            (try dsimp only at hSw)
            first | (go_simp; done) | (go_simp; with_reducible rfl)
          try simp only [Act.put, List.setIfInBounds_toArray, List.set_cons_zero, List.set_cons_succ]
          refine wpAnyH_take (i := 5) (oi := ⟨some 29, _, _, _, _, _⟩) (v := ?vb5) rfl (by kernel_rfl) (by kernel_rfl) (by kernel_rfl) (fun _ _ _ h => h) (Or.inl ⟨by rfl, ?yb5⟩) (Fr.refl _ _) ?rb5
          case yb5 =>
            intro wq hSw
            (try dsimp only at hSw)
            first | (go_simp; done) | (go_simp; with_reducible rfl)
          try simp only [Act.put, List.setIfInBounds_toArray, List.set_cons_zero, List.set_cons_succ]
          refine wpAnyH_take (i := 6) (oi := ⟨some 30, _, _, _, _, _⟩) (v := ?vb6) rfl (by kernel_rfl) (by kernel_rfl) (by kernel_rfl) (fun _ _ _ h => h) (Or.inl ⟨by rfl, ?yb6⟩) (Fr.refl _ _) ?rb6
          case yb6 =>
            intro wq hSw
            (try dsimp only at hSw)
            first | (go_simp; done) | (go_simp; with_reducible rfl)
          try simp only [Act.put, List.setIfInBounds_toArray, List.set_cons_zero, List.set_cons_succ]
          refine wpAnyH_take (i := 7) (oi := ⟨some 31, _, _, _, _, _⟩) (v := ?vb7) rfl (by kernel_rfl) (by kernel_rfl) (by kernel_rfl) (fun _ _ _ h => h) (Or.inl ⟨by rfl, ?yb7⟩) (Fr.refl _ _) ?rb7
          case yb7 =>
            intro wq hSw
            (try dsimp only at hSw)
            first | (go_simp; done) | (go_simp; with_reducible rfl)
          try simp only [Act.put, List.setIfInBounds_toArray, List.set_cons_zero, List.set_cons_succ]
          refine wpAnyH_take (i := 8) (oi := ⟨some 32, _, _, _, _, _⟩) (v := ?vb8) rfl (by kernel_rfl) (by kernel_rfl) (by kernel_rfl) (fun _ _ _ h => h) (Or.inl ⟨by rfl, ?yb8⟩) (Fr.refl _ _) ?rb8
          case yb8 =>
            intro wq hSw
            (try dsimp only at hSw)
            first | (go_simp; done) | (go_simp; with_reducible rfl)
          try simp only [Act.put, List.setIfInBounds_toArray, List.set_cons_zero, List.set_cons_succ]
          refine wpAnyH_take (i := 9) (oi := ⟨some 33, _, _, _, _, _⟩) (v := ?vb9) rfl (by kernel_rfl) (by kernel_rfl) (by kernel_rfl) (fun _ _ _ h => h) (Or.inl ⟨by rfl, ?yb9⟩) (Fr.refl _ _) ?rb9
          case yb9 =>
            intro wq hSw
            (try dsimp only at hSw)
            first | (go_simp; done) | (go_simp; with_reducible rfl)
          try simp only [Act.put, List.setIfInBounds_toArray, List.set_cons_zero, List.set_cons_succ]
          refine wpAnyH_take (i := 10) (oi := ⟨some 34, _, _, _, _, _⟩) (v := ?vb10) rfl (by kernel_rfl) (by kernel_rfl) (by kernel_rfl) (fun _ _ _ h => h) (Or.inl ⟨by rfl, ?yb10⟩) (Fr.refl _ _) ?rb10
          case yb10 =>
            intro wq hSw
            (try dsimp only at hSw)
            have hq := hSw.cell_some C0.out N0.out
            first | (go_simp; done) | (go_simp; with_reducible rfl)
          try simp only [Act.put, List.setIfInBounds_toArray, List.set_cons_zero, List.set_cons_succ]
          refine wpAnyH_take (i := 11) (oi := ⟨some 35, _, _, _, _, _⟩) (v := ?vb11) rfl (by kernel_rfl) (by kernel_rfl) (by kernel_rfl) (fun _ _ _ h => h) (Or.inl ⟨by rfl, ?yb11⟩) (Fr.refl _ _) ?rb11
          case yb11 =>
            intro wq hSw
            (try dsimp only at hSw)
            first | (go_simp; done) | (go_simp; with_reducible rfl)
          try simp only [Act.put, List.setIfInBounds_toArray, List.set_cons_zero, List.set_cons_succ]
          refine wpAnyH_take (i := 12) (oi := ⟨some 36, _, _, _, _, _⟩) (v := ?vb12) rfl (by kernel_rfl) (by kernel_rfl) (by kernel_rfl) (fun _ _ _ h => h) (Or.inl ⟨by rfl, ?yb12⟩) (Fr.refl _ _) ?rb12
          case yb12 =>
            intro wq hSw
            (try dsimp only at hSw)
            first | (go_simp; done) | (go_simp; with_reducible rfl)
          try simp only [Act.put, List.setIfInBounds_toArray, List.set_cons_zero, List.set_cons_succ]
          refine wpAnyH_take (i := 13) (oi := ⟨some 37, _, _, _, _, _⟩) (v := ?vb13) rfl (by kernel_rfl) (by kernel_rfl) (by kernel_rfl) (fun _ _ _ h => h) (Or.inl ⟨by rfl, ?yb13⟩) (Fr.refl _ _) ?rb13
          case yb13 =>
            intro wq hSw
            (try dsimp only at hSw)
            have hq := hSw.cell_some CG.out NG.out
            first | (go_simp; done) | (go_simp; with_reducible rfl)
          try simp only [Act.put, List.setIfInBounds_toArray, List.set_cons_zero, List.set_cons_succ]
          refine wpAnyH_take (i := 14) (oi := ⟨some 38, _, _, _, _, _⟩) (v := ?vb14) rfl (by kernel_rfl) (by kernel_rfl) (by kernel_rfl) (fun _ _ _ h => h) (Or.inl ⟨by rfl, ?yb14⟩) (Fr.refl _ _) ?rb14
          case yb14 =>
            intro wq hSw
            (try dsimp only at hSw)
            first | (go_simp; done) | (go_simp; with_reducible rfl)
          try simp only [Act.put, List.setIfInBounds_toArray, List.set_cons_zero, List.set_cons_succ]
          refine wpAnyH_take (i := 15) (oi := ⟨some 39, _, _, _, _, _⟩) (v := ?vb15) rfl (by kernel_rfl) (by kernel_rfl) (by kernel_rfl) (fun _ _ _ h => h) (Or.inl ⟨by rfl, ?yb15⟩) (Fr.refl _ _) ?rb15
          case yb15 =>
            intro wq hSw
            (try dsimp only at hSw)
            first | (go_simp; done) | (go_simp; with_reducible rfl)
          try simp only [Act.put, List.setIfInBounds_toArray, List.set_cons_zero, List.set_cons_succ]
          refine wpAnyH_take (i := 16) (oi := ⟨some 40, _, _, _, _, _⟩) (v := ?vb16) rfl (by kernel_rfl) (by kernel_rfl) (by kernel_rfl) (fun _ _ _ h => h) (Or.inl ⟨by rfl, ?yb16⟩) (Fr.refl _ _) ?rb16
          case yb16 =>
            intro wq hSw
            (try dsimp only at hSw)
            first | (go_simp; done) | (go_simp; with_reducible rfl)
          try simp only [Act.put, List.setIfInBounds_toArray, List.set_cons_zero, List.set_cons_succ]
          refine wpAnyH_take (i := 17) (oi := ⟨some 41, _, _, _, _, _⟩) (v := ?vb17) rfl (by kernel_rfl) (by kernel_rfl) (by kernel_rfl) (fun _ _ _ h => h) (Or.inl ⟨by rfl, ?yb17⟩) (Fr.refl _ _) ?rb17
          case yb17 =>
            intro wq hSw
            (try dsimp only at hSw)
            first | (go_simp; done) | (go_simp; with_reducible rfl)
          try simp only [Act.put, List.setIfInBounds_toArray, List.set_cons_zero, List.set_cons_succ]
          refine wpAnyH_take (i := 18) (oi := ⟨some 42, _, _, _, _, _⟩) (v := ?vb18) rfl (by kernel_rfl) (by kernel_rfl) (by kernel_rfl) (fun _ _ _ h => h) (Or.inl ⟨by rfl, ?yb18⟩) (Fr.refl _ _) ?rb18
          case yb18 =>
            intro wq hSw
            (try dsimp only at hSw)
            have hq := hSw.cell_some CR.out NR.out
            first | (go_simp; done) | (go_simp; with_reducible rfl)
          try simp only [Act.put, List.setIfInBounds_toArray, List.set_cons_zero, List.set_cons_succ]
          refine wpAnyH_ready (rs := [19]) (by kernel_rfl) (by simp) ?_
          refine AllReadyH.cons (o := ⟨some 43, _, _, _, _, _⟩) rfl (fun K hK => ?_) AllReadyH.nil
          go_simp
          refine HC.out.mono ?_; rintro e w2 ⟨rfl, S2, hr2, hf2, hs2⟩
          have hbd : Below wr.heap.size wr wr.drew := Below.drew (Below.refl _ _)
          obtain ⟨S3, har, hn3⟩ := (HA.out.later (layX _) hbd).turn (layX (k + t)) (layX (k + t + 1)) (fun _ _ _ _ q => Rf.mono q (by omega)) HXS.out HD.out hr2 hf2 hs2
          have HM3 := Lib.hid (show RX (k + (t + 1)) w2 S3 A (putS xs rs z (t + 1)) by
            rw [putS, ← putF_yes (x := x) HRT.out hro, upTo_set (F := putF rs z) HX.out] at har
            exact har)
          have HN3 := Lib.hid (HNX.out.trans (hn3.below hbd))
          have hfr : Fr d.S wr.drew w2 := hf2
          clear hr2 hf2 hs2 har hn3 hbd
          go_wp2_with fail
          refine hK.out _ _ hfr (fun hHeld => ?_)
          clear hK K hHeld
          try simp only [Act.put, List.setIfInBounds_toArray, List.set_cons_zero, List.set_cons_succ]
          refine wpAnyH_re (S' := fun w' => Fr (d.S) w2 w') (fun w' h => hfr.trans h) ?_
          clear hfr
          refine wpAnyH_take (i := 20) (oi := ⟨some 44, _, _, _, _, _⟩) (v := (.bool false)) rfl (by kernel_rfl) (by kernel_rfl) (by kernel_rfl) (fun _ _ _ h => h) (Or.inl ⟨by rfl, ?yb20⟩) (Fr.refl _ _) ?rb20
          case yb20 =>
            intro wq hSw
            exact step_eqi10 (x := .tmp 43) (y := .const (.int .i64 0)) rfl rfl rfl HV0.out
          try simp only [Act.put, List.setIfInBounds_toArray, List.set_cons_zero, List.set_cons_succ]
          refine wpAnyH_take (i := 21) (oi := ⟨some 45, _, _, _, _, _⟩) (v := ?vb21) rfl (by kernel_rfl) (by kernel_rfl) (by kernel_rfl) (fun _ _ _ h => h) (Or.inl ⟨by rfl, ?yb21⟩) (Fr.refl _ _) ?rb21
          case yb21 =>
            intro wq hSw
            (try dsimp only at hSw)
            first | (go_simp; done) | (go_simp; with_reducible rfl)
          try simp only [Act.put, List.setIfInBounds_toArray, List.set_cons_zero, List.set_cons_succ]
          refine wpAnyH_done (by kernel_rfl) ?_ _
          go_wp2_with fail
          go_roundw
          case rel => exact ⟨t + 1, y, S3, by omega, HCN.out.symm, by omega, by go_num, rfl, HM3.out, HN3.out⟩
          case measure => simp [intOf]; omega
      · have hroi : ¬ (0 : Int) < (ro.length : Int) := by omega
        rw [if_neg (fun p => hro p.1)] at hcn
        have HCN := Lib.hid hcn
        have HM3 := Lib.hid (show RX (k + (t + 1)) wr S' A (putS xs rs z (t + 1)) by
          have h := HM0.out
          rw [putS, upTo_same HX.out (putF_no HRT.out hro)]
          exact RX.mono h (by omega))
        clear hcn hs3 hb3 hc hkr hdS hrep ha hxs hd hx hnx hg hxe hdx hrt hroe hTb hy hbw
        go_wp2_with fail
        clear c0 cg hcell
        refine wp_region_held_drew (S := fun w' => Fr (d.S) wr.drew w') (by kernel_rfl) (Fr.refl _ _) (fun hHeld => ?_)
        clear hHeld
        refine wpAnyH_take (i := 0) (oi := ⟨some 24, _, _, _, _, _⟩) (v := ?vd0) rfl (by kernel_rfl) (by kernel_rfl) (by kernel_rfl) (fun _ _ _ h => h) (Or.inl ⟨by rfl, ?yd0⟩) (Fr.refl _ _) ?rd0
        case yd0 =>
          intro wq hSw
          (try dsimp only at hSw)
          first | (go_simp; done) | (go_simp; with_reducible rfl)
        try simp only [Act.put, List.setIfInBounds_toArray, List.set_cons_zero, List.set_cons_succ]
        refine wpAnyH_take (i := 1) (oi := ⟨some 25, _, _, _, _, _⟩) (v := ?vd1) rfl (by kernel_rfl) (by kernel_rfl) (by kernel_rfl) (fun _ _ _ h => h) (Or.inl ⟨by rfl, ?yd1⟩) (Fr.refl _ _) ?rd1
        case yd1 =>
          intro wq hSw
          (try dsimp only at hSw)
          first | (go_simp; done) | (go_simp; with_reducible rfl)
        try simp only [Act.put, List.setIfInBounds_toArray, List.set_cons_zero, List.set_cons_succ]
        refine wpAnyH_take (i := 2) (oi := ⟨some 26, _, _, _, _, _⟩) (v := ?vd2) rfl (by kernel_rfl) (by kernel_rfl) (by kernel_rfl) (fun _ _ _ h => h) (Or.inl ⟨by rfl, ?yd2⟩) (Fr.refl _ _) ?rd2
        case yd2 =>
          intro wq hSw
          (try dsimp only at hSw)
          first | (go_simp; done) | (go_simp; with_reducible rfl)
        try simp only [Act.put, List.setIfInBounds_toArray, List.set_cons_zero, List.set_cons_succ]
        refine wpAnyH_take (i := 3) (oi := ⟨some 27, _, _, _, _, _⟩) (v := ?vd3) rfl (by kernel_rfl) (by kernel_rfl) (by kernel_rfl) (fun _ _ _ h => h) (Or.inl ⟨by rfl, ?yd3⟩) (Fr.refl _ _) ?rd3
        case yd3 =>
          intro wq hSw
          (try dsimp only at hSw)
          have hq := hSw.cell_some CR.out NR.out
          first | (go_simp; done) | (go_simp; with_reducible rfl)
        try simp only [Act.put, List.setIfInBounds_toArray, List.set_cons_zero, List.set_cons_succ]
        refine wpAnyH_take (i := 4) (oi := ⟨some 28, _, _, _, _, _⟩) (v := ?vd4) rfl (by kernel_rfl) (by kernel_rfl) (by kernel_rfl) (fun _ _ _ h => h) (Or.inl ⟨by rfl, ?yd4⟩) (Fr.refl _ _) ?rd4
        case yd4 =>
          intro wq hSw
          (try dsimp only at hSw)
          first | (go_simp; done) | (go_simp; with_reducible rfl)
        try simp only [Act.put, List.setIfInBounds_toArray, List.set_cons_zero, List.set_cons_succ]
        refine wpAnyH_take (i := 5) (oi := ⟨some 29, _, _, _, _, _⟩) (v := ?vd5) rfl (by kernel_rfl) (by kernel_rfl) (by kernel_rfl) (fun _ _ _ h => h) (Or.inl ⟨by rfl, ?yd5⟩) (Fr.refl _ _) ?rd5
        case yd5 =>
          intro wq hSw
          (try dsimp only at hSw)
          first | (go_simp; done) | (go_simp; with_reducible rfl)
        try simp only [Act.put, List.setIfInBounds_toArray, List.set_cons_zero, List.set_cons_succ]
        refine wpAnyH_take (i := 6) (oi := ⟨some 30, _, _, _, _, _⟩) (v := ?vd6) rfl (by kernel_rfl) (by kernel_rfl) (by kernel_rfl) (fun _ _ _ h => h) (Or.inl ⟨by rfl, ?yd6⟩) (Fr.refl _ _) ?rd6
        case yd6 =>
          intro wq hSw
          (try dsimp only at hSw)
          first | (go_simp; done) | (go_simp; with_reducible rfl)
        try simp only [Act.put, List.setIfInBounds_toArray, List.set_cons_zero, List.set_cons_succ]
        refine wpAnyH_take (i := 7) (oi := ⟨some 31, _, _, _, _, _⟩) (v := undef) rfl (by kernel_rfl) (by kernel_rfl) (by kernel_rfl) (fun _ _ _ h => h) (Or.inr ⟨by rfl, rfl⟩) (Fr.refl _ _) ?rd7
        try simp only [Act.put, List.setIfInBounds_toArray, List.set_cons_zero, List.set_cons_succ]
        refine wpAnyH_take (i := 8) (oi := ⟨some 32, _, _, _, _, _⟩) (v := undef) rfl (by kernel_rfl) (by kernel_rfl) (by kernel_rfl) (fun _ _ _ h => h) (Or.inr ⟨by rfl, rfl⟩) (Fr.refl _ _) ?rd8
        try simp only [Act.put, List.setIfInBounds_toArray, List.set_cons_zero, List.set_cons_succ]
        refine wpAnyH_take (i := 9) (oi := ⟨some 33, _, _, _, _, _⟩) (v := undef) rfl (by kernel_rfl) (by kernel_rfl) (by kernel_rfl) (fun _ _ _ h => h) (Or.inr ⟨by rfl, rfl⟩) (Fr.refl _ _) ?rd9
        try simp only [Act.put, List.setIfInBounds_toArray, List.set_cons_zero, List.set_cons_succ]
        refine wpAnyH_take (i := 10) (oi := ⟨some 34, _, _, _, _, _⟩) (v := undef) rfl (by kernel_rfl) (by kernel_rfl) (by kernel_rfl) (fun _ _ _ h => h) (Or.inr ⟨by rfl, rfl⟩) (Fr.refl _ _) ?rd10
        try simp only [Act.put, List.setIfInBounds_toArray, List.set_cons_zero, List.set_cons_succ]
        refine wpAnyH_take (i := 11) (oi := ⟨some 35, _, _, _, _, _⟩) (v := undef) rfl (by kernel_rfl) (by kernel_rfl) (by kernel_rfl) (fun _ _ _ h => h) (Or.inr ⟨by rfl, rfl⟩) (Fr.refl _ _) ?rd11
        try simp only [Act.put, List.setIfInBounds_toArray, List.set_cons_zero, List.set_cons_succ]
        refine wpAnyH_take (i := 12) (oi := ⟨some 36, _, _, _, _, _⟩) (v := undef) rfl (by kernel_rfl) (by kernel_rfl) (by kernel_rfl) (fun _ _ _ h => h) (Or.inr ⟨by rfl, rfl⟩) (Fr.refl _ _) ?rd12
        try simp only [Act.put, List.setIfInBounds_toArray, List.set_cons_zero, List.set_cons_succ]
        refine wpAnyH_take (i := 13) (oi := ⟨some 37, _, _, _, _, _⟩) (v := undef) rfl (by kernel_rfl) (by kernel_rfl) (by kernel_rfl) (fun _ _ _ h => h) (Or.inr ⟨by rfl, rfl⟩) (Fr.refl _ _) ?rd13
        try simp only [Act.put, List.setIfInBounds_toArray, List.set_cons_zero, List.set_cons_succ]
        refine wpAnyH_take (i := 14) (oi := ⟨some 38, _, _, _, _, _⟩) (v := undef) rfl (by kernel_rfl) (by kernel_rfl) (by kernel_rfl) (fun _ _ _ h => h) (Or.inr ⟨by rfl, rfl⟩) (Fr.refl _ _) ?rd14
        try simp only [Act.put, List.setIfInBounds_toArray, List.set_cons_zero, List.set_cons_succ]
        refine wpAnyH_take (i := 15) (oi := ⟨some 39, _, _, _, _, _⟩) (v := undef) rfl (by kernel_rfl) (by kernel_rfl) (by kernel_rfl) (fun _ _ _ h => h) (Or.inr ⟨by rfl, rfl⟩) (Fr.refl _ _) ?rd15
        try simp only [Act.put, List.setIfInBounds_toArray, List.set_cons_zero, List.set_cons_succ]
        refine wpAnyH_take (i := 16) (oi := ⟨some 40, _, _, _, _, _⟩) (v := undef) rfl (by kernel_rfl) (by kernel_rfl) (by kernel_rfl) (fun _ _ _ h => h) (Or.inr ⟨by rfl, rfl⟩) (Fr.refl _ _) ?rd16
        try simp only [Act.put, List.setIfInBounds_toArray, List.set_cons_zero, List.set_cons_succ]
        refine wpAnyH_take (i := 17) (oi := ⟨some 41, _, _, _, _, _⟩) (v := undef) rfl (by kernel_rfl) (by kernel_rfl) (by kernel_rfl) (fun _ _ _ h => h) (Or.inr ⟨by rfl, rfl⟩) (Fr.refl _ _) ?rd17
        try simp only [Act.put, List.setIfInBounds_toArray, List.set_cons_zero, List.set_cons_succ]
        refine wpAnyH_take (i := 18) (oi := ⟨some 42, _, _, _, _, _⟩) (v := undef) rfl (by kernel_rfl) (by kernel_rfl) (by kernel_rfl) (fun _ _ _ h => h) (Or.inr ⟨by rfl, rfl⟩) (Fr.refl _ _) ?rd18
        try simp only [Act.put, List.setIfInBounds_toArray, List.set_cons_zero, List.set_cons_succ]
        refine wpAnyH_take (i := 19) (oi := ⟨some 43, _, _, _, _, _⟩) (v := undef) rfl (by kernel_rfl) (by kernel_rfl) (by kernel_rfl) (fun _ _ _ h => h) (Or.inr ⟨by rfl, rfl⟩) (Fr.refl _ _) ?rd19
        try simp only [Act.put, List.setIfInBounds_toArray, List.set_cons_zero, List.set_cons_succ]
        refine wpAnyH_take (i := 20) (oi := ⟨some 44, _, _, _, _, _⟩) (v := undef) rfl (by kernel_rfl) (by kernel_rfl) (by kernel_rfl) (fun _ _ _ h => h) (Or.inr ⟨by rfl, rfl⟩) (Fr.refl _ _) ?rd20
        try simp only [Act.put, List.setIfInBounds_toArray, List.set_cons_zero, List.set_cons_succ]
        refine wpAnyH_take (i := 21) (oi := ⟨some 45, _, _, _, _, _⟩) (v := ?vd21) rfl (by kernel_rfl) (by kernel_rfl) (by kernel_rfl) (fun _ _ _ h => h) (Or.inl ⟨by rfl, ?yd21⟩) (Fr.refl _ _) ?rd21
        case yd21 =>
          intro wq hSw
          (try dsimp only at hSw)
          first | (go_simp; done) | (go_simp; with_reducible rfl)
        try simp only [Act.put, List.setIfInBounds_toArray, List.set_cons_zero, List.set_cons_succ]
        refine wpAnyH_done (by kernel_rfl) ?_ _
        go_wp2_with fail
        go_roundw
        case rel => exact ⟨t + 1, y, S', by omega, HCN.out.symm, by omega, by go_num, rfl, Arr.later (layX _) HM3.out (Below.drew (Below.refl _ _)), HNX.out.later (Below.drew (Below.refl _ _))⟩
        case measure => simp [intOf]; omega
    · obtain rfl : t = q := by omega
      obtain rfl : r = y := by rw [HR.out, hy]
      have HM := Lib.hid (show MutX (k + n) S A (putS xs rs z t) w wr from ⟨S', RX.mono HM0.out (by omega), HNX.out⟩)
      clear ha hnx hxs hg hl hy
      by_cases htm : t < m
      · have htmi : (t : Int) < (m : Int) := by omega
        have htni : ¬ (t : Int) < (n : Int) := by have := HQ.out; omega
        go_wp2_with fail
        go_ret
        exact ⟨rfl, HM.out⟩
      · have htmi : ¬ (t : Int) < (m : Int) := by omega
        go_wp2_with fail
        go_ret
        exact ⟨rfl, HM.out⟩
end
end Go.Proofs.Ytjjoeaneaibklaa
