/-
  The contract of package locate's eachSet with the function that nearest hands it: all rising lists of so many numbers are gone through, in order, till one is found. Condition: as enough_any. (Written by gen_dqi.py.)
-/
import Derived.Test.YtabcmjbcnmedhaaGreatDqh
namespace Go.Proofs.YtabcmjbcnmedhaaGreat
open Go.RowKit Go.Proofs
set_option linter.unusedVariables false

theorem Fr.newBlk {S : Nat → Prop} {a b c : World} {g : Nat} (h : Fr S a b) (h2 : Fr (fun x => x = g) b c) (hg : a.heap.size ≤ g) : Fr S a c :=
  ⟨h2.os.trans h.os, h2.tape.trans h.tape, h2.output.trans h.output, Nat.le_trans h.size h2.size, fun k hk hn => (h2.block k (Nat.lt_of_lt_of_le hk h.size) (fun e => by have e : k = g := e; omega)).trans (h.block k hk hn)⟩
/-- What eachSet leaves. -/
def RetSets (k m V b8 q : Nat) (rs : List (List UInt8)) (w : World) (e : Ending) (w' : World) : Prop :=
  e = .returned (.tuple #[]) ∧ ((∃ S, Ris (k + m) q S ∧ Found k m V b8 rs S w') ∨ (Fnd w' b8 (.slice none 0 0) ∧ ∀ S, Ris (k + m) q S → ∀ ds, Lev k V ds → ¬ Agr k (k + m) rs ds S)) ∧ Fr (fun x => x = b8) w w'

set_option maxRecDepth 100000 in
set_option maxHeartbeats 6400000 in
theorem eachSet_any (C k m F T V p b3 b4 b7 b8 q : Nat) (rs : List (List UInt8)) (w0 w : World) (h : Nst w0 C k m F T V p b3 b4 b7 rs) (hb : Below w0.heap.size w0 w) (h8 : w0.heap.size ≤ b8) (hf : Fnd w b8 (.slice none 0 0)) (hq : q ≤ m) :
    Calls Tryz.prog 44 #[.int .i64 ((k + m : Nat) : Int), .int .i64 (q : Int), .func (.func 45) #[] #[.pointer (some ⟨b3, 0, none⟩), .pointer (some ⟨b7, 0, none⟩), .pointer (some ⟨b4, 0, none⟩), .pointer (some ⟨b8, 0, none⟩)]] w (RetSets k m V b8 q rs w) := by
  have h255 := h.cod.n255
  have hk1 := h.cod.k1
  have lf := block_lt hf
  obtain ⟨n, hn⟩ : ∃ n, n = k + m := ⟨_, rfl⟩
  rw [← hn]
  have hn2 : n ≤ 255 := by omega
  have hqn : q < n := by omega
  have Hn := Lib.hid hn
  have Hst := Lib.hid h
  have Hb := Lib.hid hb
  have HF := Lib.hid hf
  have e45 : ∀ args w, (callFunc 45 args).run Tryz.prog w = .ok (.enter 45 args) w := enters_of Tryz.func45 (by kernel_rfl) rfl
  clear h hb hf hn h255 hk1
  go_enter Tryz.func44, Tryz.ntmps44
  go_wp2_with fail
  go_step3
  have hri : Calls Tryz.prog 61 #[.int .i64 0, .int .i64 (q : Int)] w _ := rising_any 0 q (by omega) (by omega) w
  go_wp2_with fail
  refine hri.mono ?_; clear hri; rintro e w1 ⟨rfl, hN1, hb1⟩
  obtain ⟨g, hg⟩ : ∃ g, g = w.heap.size := ⟨_, rfl⟩
  rw [← hg] at hN1 ⊢
  have hg8 : b8 ≠ g := by omega
  have hg0 : w0.heap.size ≤ g := by have := Hb.out.size; omega
  have HN1 := Lib.hid hN1
  have Hb1 := Lib.hid hb1
  have F1 := Lib.hid (HF.out.later hb1)
  have Hgw := Lib.hid (show w.heap.size ≤ g by omega)
  clear hN1 hb1 hg
  go_wp2_with fail
  go_step3
  go_wp2_with fail
  obtain ⟨NQ, hNQ⟩ : ∃ x, x = n ^ q := ⟨_, rfl⟩
  have HNQ := Lib.hid hNQ
  clear hNQ
  go_loopg [] NQ (fun gk wr => ∃ s : List Nat, Hid (Ris n q s) ∧ Hid (Numb wr g s) ∧ NQ ≤ valL n s q + gk ∧ Hid (∀ t, Ris n q t → Bef q t s → ∀ ds, Lev k V ds → ¬ Agr k (k + m) rs ds t) ∧ Hid (Fnd wr b8 (.slice none 0 0)) ∧ Hid (Fr (fun x => x = b8) w wr))
  case atStart => exact ⟨upL 0 q, Lib.hid (Ris.first (by omega)), HN1, by omega, Lib.hid (fun t ht hb => absurd hb (bef_first ht)), F1, Lib.hid (Fr.of_below Hb1.out)⟩
  case round =>
    obtain ⟨s, Hs, HNs, hgk, Hdone, HFs, Hfr⟩ := hrel
    obtain ⟨G, hG⟩ : ∃ x, x = gk := ⟨_, rfl⟩
    subst hG
    have hsz := Hfr.out.size
    have hmp := mapped_any (some ⟨g, 0, none⟩) q q s wr (HNs.out.sl Hs.out.len (by unfold maxLen; omega)) (by omega) (fun x hx => by
      obtain ⟨i, hi, rfl⟩ := List.mem_iff_getElem.1 hx
      have := Hs.out.lt i (by rw [← Hs.out.len]; exact hi)
      have e : s.getD i 0 = s[i] := by simp [hi]
      omega)
    go_wp2_with fail
    refine hmp.mono ?_; clear hmp; rintro e w2 ⟨rfl, hK, hb2⟩
    have hb02 : Below w0.heap.size w0 w2 := (Hb.out.trans (Hfr.out.below Hb.out.size (fun x e => by have e : x = b8 := e; omega))).trans (hb2.mono (by have := Hb.out.size; omega))
    have hen := enough_any C k m F T V p b3 b4 b7 b8 wr.heap.size rs s w0 w2 Hst.out hb02 h8 (HFs.out.later hb2) (by rw [Hs.out.len]; exact hq) hK
    have HNs2 := Lib.hid (HNs.out.later hb2)
    have Hfr2 := Lib.hid (Hfr.out.trans (Fr.of_below hb2))
    clear hK hb2 hb02
    go_wp2_with fail
    refine hen.mono ?_; clear hen; rintro e w3 ⟨hR, hfr3⟩
    have HNs3 := Lib.hid (HNs2.out.fr hfr3 (fun e => hg8 e.symm))
    have Hfr3 := Lib.hid (Hfr2.out.trans hfr3)
    clear hfr3 HNs2 Hfr2 HFs HNs Hfr
    rcases hR with ⟨rfl, hfound⟩ | ⟨rfl, hnot⟩
    · have Hfound := Lib.hid hfound
      clear hfound
      go_wp2_with fail
      try rw [Exit.noGoto_ret]
      go_end0
      exact ⟨rfl, .inl ⟨s, by rw [← Hn.out]; exact Hs.out, Hfound.out⟩, Hfr3.out⟩
    · have HF3 := Lib.hid hnot.1
      have Hno := Lib.hid hnot.2
      clear hnot
      go_wp2_with fail
      go_loopg [7] q (fun g2 v wy => ∃ (y : Nat) (a : Int), y ≤ g2 ∧ y ≤ q ∧ Hid (a = (y : Int) - 1) ∧ v = .int .i64 a ∧ Hid (∀ i, y ≤ i → i < q → s.getD i 0 + (q - i) = n) ∧ w3 = wy)
      case atStart => exact ⟨q, _, Nat.le_refl _, Nat.le_refl _, Lib.hid rfl, rfl, Lib.hid (fun i h1 h2 => absurd h1 (by omega)), rfl⟩
      case round =>
        obtain ⟨y, a, hyg, hyq, Ha, rfl, Hmax, rfl⟩ := hrel
        cases y with
        | zero =>
          obtain rfl : a = -1 := by have := Ha.out; omega
          go_wp2_with fail
          try rw [Exit.noGoto_ret]
          go_end0
          refine ⟨rfl, .inr ⟨HF3.out, fun S hS ds hd => ?_⟩, Hfr3.out⟩
          rw [← Hn.out] at hS
          rcases bef_last Hs.out hS (fun i hi => Hmax.out i (Nat.zero_le _) hi) with e | e
          · rw [e]; exact Hno.out ds hd
          · exact Hdone.out S hS e ds hd
        | succ y =>
          obtain rfl : a = (y : Int) := by have := Ha.out; omega
          have hroom := Hs.out.room (i := y) (by omega)
          have hcell := HNs3.out.at_ (i := y) (by rw [Hs.out.len]; omega)
          obtain ⟨sv, hsv⟩ : ∃ x, x = s.getD y 0 := ⟨_, rfl⟩
          obtain ⟨nx, hnx⟩ : ∃ x, x = sv + 1 := ⟨_, rfl⟩
          obtain ⟨r, hr⟩ : ∃ x, x = q - y := ⟨_, rfl⟩
          rw [← hsv] at hcell hroom
          have hbeh : (q : Int) - (y : Int) = (r : Int) := by omega
          have hnxi : (sv : Int) + 1 = (nx : Int) := by omega
          have hyqi : (y : Int) ≤ (q : Int) := by omega
          have hyqlt : (y : Int) < (q : Int) := by omega
          have hqy : q ≠ y := by omega
          have hrq : y + r = q := by omega
          have hr0 : 0 < r := by omega
          have hnx1 : nx ≤ 255 := by omega
          have hr255 : r ≤ 255 := by omega
          have hroom2 : sv + r ≤ n := by omega
          have hnx2 : nx ≤ sv + 1 ∧ sv + 1 ≤ nx := by omega
          have Hsv := Lib.hid hsv
          have Hrq := Lib.hid hrq
          have Hr := Lib.hid hr
          clear hsv hnx hr hroom hrq
          by_cases hle : nx + r ≤ n
          · have hle' : (nx : Int) + (r : Int) ≤ (n : Int) := by omega
            have HNd := Lib.hid (HNs3.out.later (Below.drew (Below.refl _ _)))
            go_wp2_with fail
            clear hcell
            refine wp_region_held_drew (S := fun w' => Fr (fun x => x = g) w3 w') (by kernel_rfl) (Fr.drew (Fr.refl _ _)) (fun hHeld => ?_)
            clear hHeld
            have hHeld : Fr (fun x => x = g) w3 w3.drew := Fr.drew (Fr.refl _ _)
            have hz_0 : w3.heap.size ≤ w3.drew.heap.size := Nat.le_refl _
            obtain ⟨v_1, hw⟩ : ∃ v_1, v_1 = w3.drew := ⟨_, rfl⟩
            rw [← hw] at hHeld hz_0 HNd ⊢
            clear hw
            refine wpAnyH_take (i := 0) (oi := ⟨some 36, _, _, _, _, _⟩) (v := ?vg0_2) rfl (by kernel_rfl) (by kernel_rfl) (by kernel_rfl) (fun _ _ _ h => h) (Or.inl ⟨by rfl, ?yg0_2⟩) hHeld ?rg0_2
            case yg0_2 =>
              intro wq hSw
              (try dsimp only at hSw)
              first | (go_simp; done) | (go_simp; with_reducible rfl)
            try simp only [Act.put, List.setIfInBounds_toArray, List.set_cons_zero, List.set_cons_succ]
            refine wpAnyH_take (i := 1) (oi := ⟨some 37, _, _, _, _, _⟩) (v := ?vg1_3) rfl (by kernel_rfl) (by kernel_rfl) (by kernel_rfl) (fun _ _ _ h => h) (Or.inl ⟨by rfl, ?yg1_3⟩) hHeld ?rg1_3
            case yg1_3 =>
              intro wq hSw
              (try dsimp only at hSw)
              first | (go_simp; done) | (go_simp; with_reducible rfl)
            try simp only [Act.put, List.setIfInBounds_toArray, List.set_cons_zero, List.set_cons_succ]
            refine wpAnyH_take (i := 2) (oi := ⟨some 38, _, _, _, _, _⟩) (v := ?vg2_4) rfl (by kernel_rfl) (by kernel_rfl) (by kernel_rfl) (fun _ _ _ h => h) (Or.inl ⟨by rfl, ?yg2_4⟩) hHeld ?rg2_4
            case yg2_4 =>
              intro wq hSw
              (try dsimp only at hSw)
              first | (go_simp; done) | (go_simp; with_reducible rfl)
            try simp only [Act.put, List.setIfInBounds_toArray, List.set_cons_zero, List.set_cons_succ]
            refine wpAnyH_take (i := 3) (oi := ⟨some 39, _, _, _, _, _⟩) (v := ?vg3_5) rfl (by kernel_rfl) (by kernel_rfl) (by kernel_rfl) (fun _ _ _ h => h) (Or.inl ⟨by rfl, ?yg3_5⟩) hHeld ?rg3_5
            case yg3_5 =>
              intro wq hSw
              (try dsimp only at hSw)
              first | (go_simp; done) | (go_simp; with_reducible rfl)
            try simp only [Act.put, List.setIfInBounds_toArray, List.set_cons_zero, List.set_cons_succ]
            refine wpAnyH_take (i := 4) (oi := ⟨some 40, _, _, _, _, _⟩) (v := ?vg4_6) rfl (by kernel_rfl) (by kernel_rfl) (by kernel_rfl) (fun _ _ _ h => h) (Or.inl ⟨by rfl, ?yg4_6⟩) hHeld ?rg4_6
            case yg4_6 =>
              intro wq hSw
              (try dsimp only at hSw)
              first | (go_simp; done) | (go_simp; with_reducible rfl)
            try simp only [Act.put, List.setIfInBounds_toArray, List.set_cons_zero, List.set_cons_succ]
            refine wpAnyH_ready (rs := [5]) (by kernel_rfl) (by simp) ?_
            refine AllReadyH.cons (o := ⟨some 41, _, _, _, _, _⟩) rfl (fun K hK => ?_) (AllReadyH.nil)
            go_simp
            have hh := rising_any nx r (by omega) (by omega) v_1
            refine hh.mono ?_; clear hh; rintro e v_7 ⟨rfl, hN2, hbN⟩
            have hfN : Fr (fun x => x = g) v_1 v_7 := Fr.of_below hbN
            have HN2 := Lib.hid hN2
            have HNs4 := Lib.hid (HNd.out.later hbN)
            clear hN2 hbN
            go_wp2_with fail
            have hHeld := hHeld.trans hfN
            have hz_8 := hfN.size
            refine hK.out _ _ hHeld (fun _ => ?_)
            clear hK K hfN
            try simp only [Act.put, List.setIfInBounds_toArray, List.set_cons_zero, List.set_cons_succ]
            refine wpAnyH_ready (rs := [6]) (by kernel_rfl) (by simp) ?_
            refine AllReadyH.cons (o := ⟨some 42, _, _, _, _, _⟩) rfl (fun K hK => ?_) (AllReadyH.nil)
            obtain ⟨wz, hrun0, hNz, hfN⟩ := run_copy_up (w := v_7) (g := g) (a := y) (c := r) (cd := r) (q := q) (r := r) (s := s) (t := upL nx r) HNs4.out Hs.out.len (upL_length _ _) Hrq.out hr0 (HN2.out.sl (upL_length _ _) (by unfold maxLen; omega)) 3
            have hrun : (Builtin.copy_ #[27, 27] 3 #[.slice (some ⟨g, y, none⟩) (q - y) (q - y), .slice (some ⟨v_1.heap.size, 0, none⟩) r r]).run Tryz.prog v_7 = .ok (.int .i64 (r : Int)) wz := by
              rw [← Hr.out]
              exact hrun0
            clear hrun0
            go_simp
            have HNz := Lib.hid hNz
            clear hrun hNz
            have hHeld := hHeld.trans hfN
            have hz_9 := hfN.size
            refine hK.out _ _ hHeld (fun _ => ?_)
            clear hK K hfN
            try simp only [Act.put, List.setIfInBounds_toArray, List.set_cons_zero, List.set_cons_succ]
            refine wpAnyH_done (by kernel_rfl) ?_ _
            have Hfz := Lib.hid hHeld
            clear hHeld
            go_wp2_with fail
            have hnext : nextL s y q = s.take y ++ upL nx r := by rw [nextL, ← Hsv.out, ← Hr.out, show sv + 1 = nx by omega]
            have hris : Ris n q (nextL s y q) := Hs.out.next (by omega) (by rw [← Hsv.out, ← Hr.out]; omega)
            have hval := valL_bef Hs.out hris (bef_nextL Hs.out.len (by omega))
            have hlt := valL_lt Hs.out q (Nat.le_refl _)
            rw [← HNQ.out] at hlt
            go_roundg (G - 1)
            case measure => omega
            case rel => exact ⟨nextL s y q, Lib.hid hris, Lib.hid (by rw [hnext]; exact HNz.out), by omega, Lib.hid (fun t ht hb ds hd => by
              rcases bef_next Hs.out ht (by omega) (fun i h1 h2 => Hmax.out i (by omega) h2) hb with e | e
              · rw [e]; exact Hno.out ds hd
              · exact Hdone.out t ht e ds hd), Lib.hid (Hfz.out.row_some HF3.out hg8), Lib.hid (Hfr3.out.newBlk Hfz.out Hgw.out)⟩
          · have hle' : ¬ (nx : Int) + (r : Int) ≤ (n : Int) := by omega
            go_wp2_with fail
            go_roundg y
            case measure => omega
            case rel => exact ⟨y, _, Nat.le_refl _, by omega, Lib.hid rfl, rfl, Lib.hid (fun i h1 h2 => by
              by_cases e : i = y
              · subst e
                have := Hsv.out
                have := Hr.out
                omega
              · exact Hmax.out i (by omega) h2), rfl⟩
end Go.Proofs.YtabcmjbcnmedhaaGreat
