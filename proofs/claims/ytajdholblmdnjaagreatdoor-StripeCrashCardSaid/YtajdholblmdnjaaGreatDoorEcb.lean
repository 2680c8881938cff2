/-
  Layer 13's distinct: numbers below n, each once. No condition but bounds.
-/
import Derived.Test.YtajdholblmdnjaaGreatDoorGa
import Derived.Deep.QuietTactic
import Derived.BigQuiet
set_option linter.unusedVariables false
set_option maxRecDepth 20000
set_option maxHeartbeats 1600000
namespace Go.Proofs.YtajdholblmdnjaaGreatDoor
open Go.RowKit Go.Proofs
def distS (n : Nat) (o : List Nat) (z : Int) : List Nat := if 0 ≤ z ∧ z < (n : Int) ∧ z.toNat ∉ o then o ++ [z.toNat] else o
def distL (n : Nat) (most : Int) : List Int → List Nat → List Nat
  | [], o => o
  | z :: l, o => if (o.length : Int) < most then distL n most l (distS n o z) else o
structure Dist (n : Nat) (o : List Nat) : Prop where
  lt : ∀ x ∈ o, x < n
  nd : o.Nodup
theorem Dist.nil (n : Nat) : Dist n [] := ⟨fun x h => (by cases h), List.nodup_nil⟩
theorem Dist.step {n : Nat} {o : List Nat} (h : Dist n o) (z : Int) : Dist n (distS n o z) := by
  unfold distS
  split
  · rename_i hz
    refine ⟨fun x hx => ?_, ?_⟩
    · rcases List.mem_append.1 hx with h1 | h1
      · exact h.lt x h1
      · rw [List.mem_singleton.1 h1]; omega
    · refine List.nodup_append.2 ⟨h.nd, by simp, fun x hx y hy => ?_⟩
      rw [List.mem_singleton.1 hy]
      rintro rfl
      exact hz.2.2 hx
  · exact h
theorem distS_len {n : Nat} {o : List Nat} {z : Int} : (distS n o z).length ≤ o.length + 1 := by
  unfold distS
  split <;> simp
theorem distL_dist {n : Nat} {most : Int} : ∀ (l : List Int) (o : List Nat), Dist n o → Dist n (distL n most l o)
  | [], o, h => h
  | z :: l, o, h => by
    rw [distL]
    split
    · exact distL_dist l _ (h.step z)
    · exact h
theorem distL_most {n : Nat} {most : Int} : ∀ (l : List Int) (o : List Nat), ((o.length : Nat) : Int) ≤ max 0 most → (((distL n most l o).length : Nat) : Int) ≤ max 0 most
  | [], o, h => h
  | z :: l, o, h => by
    rw [distL]
    split
    · rename_i hl
      refine distL_most l _ ?_
      have := distS_len (n := n) (o := o) (z := z)
      omega
    · exact h
theorem distL_one {n : Nat} {most : Int} : ∀ (l o : List Nat) (d : Nat), Dist n (o ++ l) → (((o ++ l).length : Nat) : Int) + 1 ≤ most → d < n → distL n most ((l ++ [d]).map fun (x : Nat) => (x : Int)) o = if d ∈ o ++ l then o ++ l else o ++ l ++ [d]
  | [], o, d, _, hm, hd => by
    rw [List.append_nil] at hm ⊢
    rw [List.nil_append, List.map_cons, List.map_nil, distL, if_pos (by omega), distL, distS]
    by_cases e : d ∈ o
    · rw [if_pos e, if_neg (by simp [e])]
    · rw [if_neg e, if_pos ⟨by omega, by omega, by simpa using e⟩]
      simp
  | x :: l, o, d, h, hm, hd => by
    have hx : x ∉ o := by
      intro hm
      have := (List.nodup_append.1 h.nd).2.2 x hm x (by simp)
      exact this rfl
    have hlt := h.lt x (by simp)
    have hs : distS n o (x : Int) = o ++ [x] := by
      rw [distS, if_pos ⟨by omega, by omega, by simpa using hx⟩]
      simp
    have hl : ((o.length : Nat) : Int) < most := by
      rw [List.length_append, List.length_cons] at hm
      omega
    rw [List.cons_append, List.map_cons, distL, if_pos hl, hs, distL_one l (o ++ [x]) d (by simpa using h) (by simpa using hm) hd]
    simp
def RetDs (w : World) (k : List Nat) (e : Ending) (w' : World) : Prop := ∃ A c, e = .returned (.slice A k.length c) ∧ Sl w' 1 A k.length c (ncells k) ∧ Below w.heap.size w w' ∧ ∀ b o, A = some ⟨b, o, none⟩ → w.heap.size ≤ b
theorem own_lo13 {w : World} {B n c : Nat} {e : TypeId} {A : Option Addr} {xs : List Value} (h : w.ownsRow B e 1 (.slice A n c) n xs) (hn : 0 < n) : ∀ b o, A = some ⟨b, o, none⟩ → B ≤ b := by
  intro b o hA
  obtain ⟨g, cur, hg, hB, _⟩ := Mine.of_own h hn
  rw [hA] at hg
  injection hg with hg
  injection hg with hg _
  omega
theorem dn13 {B : Nat} {a w : World} (h : Below B a w) (n : Nat) : Below B a (w.drewN n) := ⟨h.os, h.tape, h.output, h.size, h.block⟩
theorem distinct13_any (A0 : Option Addr) (q c0 : Nat) (l : List Int) (n : Nat) (most : Int) (hm1 : -9223372036854775808 ≤ most) (hm2 : most < 9223372036854775808) (hn : n ≤ 1000) (hq : q ≤ 1000) (w : World) (h : Sl w 1 A0 q c0 (icells l)) :
    Calls Tryz.prog 12 #[.slice A0 q c0, .int .i64 (n : Int), .int .i64 most] w (RetDs w (distL n most l [])) := by
  have hl : l.length = q := by have := h.len; rw [icells_length] at this; omega
  have H := Lib.hid h
  have Hl := Lib.hid hl
  clear h hl
  go_enter Tryz.func12, Tryz.ntmps12
  go_wp2_with fail
  go_loopw [7, 8, 9, 10] (fun v i _ _ wr => ∃ (j : Nat) (o : List Nat) (A : Option Addr) (c : Nat), j ≤ q ∧ i = .int .i64 (j : Int) ∧ v = .slice A o.length c ∧ o.length ≤ j ∧ Own wr w.heap.size 3 1 A o.length c (ncells o) ∧ Below w.heap.size w wr ∧ (∀ b f, A = some ⟨b, f, none⟩ → w.heap.size ≤ b) ∧ distL n most l [] = distL n most (l.drop j) o) (fun _ i _ _ _ => q - (intOf i).toNat)
  case atStart => exact ⟨0, [], none, 0, by omega, rfl, rfl, Nat.le_refl _, Own.full (Sl.nil _ 1 0 (by decide)), Below.refl _ _, fun b f e => (by cases e), by rw [List.drop_zero]⟩
  case round =>
    obtain ⟨j, o, A, c, hj, rfl, rfl, hoj, ho, hb, hlo, hd⟩ := hrel
    obtain ⟨p, hp⟩ : ∃ p, p = o.length := ⟨_, rfl⟩
    rw [← hp] at ho hoj
    rw [← hp]
    have Ho := Lib.hid ho
    have Hb := Lib.hid hb
    have Hlo := Lib.hid hlo
    have Hd := Lib.hid hd
    have Hp := Lib.hid hp
    clear ho hlo hd hp
    by_cases hgo : j < q ∧ (p : Int) < most
    · obtain ⟨hlt, hpm⟩ := hgo
      obtain ⟨b, f, rfl, hc⟩ := (H.out.below hb (Nat.le_refl _)).at_ hlt
      have hjl : j < l.length := by rw [Hl.out]; exact hlt
      have hcell := hc j _ (icells_get l j hjl)
      have hdrop : l.drop j = (l[j]'hjl) :: l.drop (j + 1) := List.drop_eq_getElem_cons hjl
      obtain ⟨z, hz⟩ : ∃ z, z = l[j]'hjl := ⟨_, rfl⟩
      rw [← hz] at hcell hdrop
      have hnext := Hd.out
      rw [hdrop, distL, if_pos (by rw [← Hp.out]; exact hpm)] at hnext
      have Hnext := Lib.hid hnext
      have Hcell := Lib.hid hcell
      have hji : (j : Int) < (q : Int) := by omega
      have h3 : ∃ b0, b0 = (decide (0 ≤ z) && decide (z < (n : Int))) ∧ ((b0 = true ∧ 0 ≤ z ∧ z < (n : Int)) ∨ (b0 = false ∧ 0 ≤ z ∧ ¬ z < (n : Int)) ∨ (b0 = false ∧ ¬ 0 ≤ z)) := by
        refine ⟨_, rfl, ?_⟩
        by_cases e1 : 0 ≤ z <;> by_cases e2 : z < (n : Int) <;> simp [e1, e2]
      obtain ⟨b0, hb0, h3⟩ := h3
      have Hb0 := Lib.hid hb0
      clear hc hz hdrop hnext hb hb0
      rcases h3 with ⟨hbb, hz0, hzn⟩ | ⟨hbb, hz0, hzn⟩ | ⟨hbb, hz0⟩
      all_goals
        have Hbb := Lib.hid hbb
        clear hbb
        go_wp2_with fail
        clear hcell
        obtain ⟨wo, rfl⟩ : ∃ x, x = wr := ⟨_, rfl⟩
        go_loopw [9, 10] (fun v kk wr => ∃ (k : Nat) (y : Bool), k ≤ p ∧ kk = .int .i64 (k : Int) ∧ v = .bool y ∧ y = (b0 && decide (∀ x, x < k → ((o.getD x 0 : Nat) : Int) ≠ z)) ∧ Below wo.heap.size wo wr) (fun _ kk _ => p - (intOf kk).toNat)
        case atStart => exact ⟨0, _, by omega, rfl, rfl, by rw [Hbb.out]; simp, Below.refl _ _⟩
        case round =>
          obtain ⟨k, y, hk, rfl, rfl, hy, hbw⟩ := hrel
          have Hy := Lib.hid hy
          have Hbw := Lib.hid hbw
          by_cases hkp : k < p
          · have hkpi : (k : Int) < (p : Int) := by omega
            cases y
            · have Hyn := Lib.hid (show false = (b0 && decide (∀ x, x < k + 1 → ((o.getD x 0 : Nat) : Int) ≠ z)) by
                cases hb1 : b0
                · rfl
                · rw [hb1, Bool.true_and] at hy
                  rw [Bool.true_and]
                  have hn : ¬ ∀ x, x < k → ((o.getD x 0 : Nat) : Int) ≠ z := of_decide_eq_false hy.symm
                  exact (decide_eq_false fun hh => hn fun x hx => hh x (by omega)).symm)
              clear hy hbw
              go_wp2_with fail
              go_quiet (fail)
              go_wp2_with fail
              go_roundw
              case rel => exact ⟨k + 1, false, by omega, by go_num, rfl, Hyn.out, dn13 Hbw.out _⟩
              case measure => simp [intOf]; omega
            · obtain ⟨b2, f2, hA, hc2⟩ := (Ho.out.sl.below hbw (Nat.le_refl _)).at_ hkp
              have hkl : k < o.length := by rw [← Hp.out]; exact hkp
              have hcell2 := hc2 k _ (ncells_get o k hkl)
              rw [show o[k]'hkl = o.getD k 0 from by simp [hkl]] at hcell2
              have hcellz := (Fr.of_below hbw : Fr (fun _ => False) wo wr).cell_some Hcell.out (fun h => h)
              obtain ⟨x2, hx2⟩ : ∃ x2, x2 = o.getD k 0 := ⟨_, rfl⟩
              rw [← hx2] at hcell2
              obtain ⟨v, hv⟩ : ∃ v, v = ((x2 : Int) != z) := ⟨_, rfl⟩
              have Hyn := Lib.hid (show v = (b0 && decide (∀ x, x < k + 1 → ((o.getD x 0 : Nat) : Int) ≠ z)) by
                have hb1 : b0 = true := by revert hy; cases b0 <;> simp
                rw [hb1, Bool.true_and] at hy
                rw [hb1, Bool.true_and, hv, hx2]
                have hn : ∀ x, x < k → ((o.getD x 0 : Nat) : Int) ≠ z := of_decide_eq_true hy.symm
                by_cases e : ((o.getD k 0 : Nat) : Int) = z
                · rw [decide_eq_false (fun hh => hh k (by omega) e)]
                  simpa using e
                · rw [decide_eq_true (fun x hx => by
                    by_cases e2 : x = k
                    · rw [e2]; exact e
                    · exact hn x (by omega))]
                  simpa using e)
              have hv2 : ((x2 : Int) != z) = v := hv.symm
              clear hy hbw hc2 hx2 hv hkl
              subst hA
              go_wp2_with fail
              go_quiet (fail)
              go_wp2_with fail
              go_roundw
              case rel => exact ⟨k + 1, v, by omega, by go_num, rfl, Hyn.out, dn13 Hbw.out _⟩
              case measure => simp [intOf]; omega
          · obtain rfl : k = p := by omega
            have hkpi : ¬ (k : Int) < (k : Int) := by omega
            have hB := Hb.out.trans (hbw.mono Hb.out.size)
            have HB := Lib.hid hB
            have Hox := Lib.hid (Ho.out.below hbw)
            cases y
            · have hs : distS n o z = o := by
                rw [distS, if_neg]
                rintro ⟨e1, e2, e3⟩
                rw [Hb0.out, decide_eq_true e1, decide_eq_true e2, Bool.true_and, Bool.true_and] at hy
                refine of_decide_eq_false hy.symm fun x hx e => e3 ?_
                have : o.getD x 0 = z.toNat := by omega
                rw [← this, List.getD_eq_getElem?_getD, List.getElem?_eq_getElem (by rw [← Hp.out]; exact hx)]
                exact List.getElem_mem _
              have Hs := Lib.hid hs
              clear hy hbw hs hB
              go_wp2_with fail
              go_roundw
              case rel => exact ⟨j + 1, o, A, c, by omega, by go_num, by rw [Hp.out], by rw [← Hp.out]; omega, by rw [← Hp.out]; exact Hox.out, HB.out, Hlo.out, by rw [Hnext.out, Hs.out]⟩
              case measure => simp [intOf]; omega
            · have hb1 : b0 = true := by revert hy; cases b0 <;> simp
              first
              | (exfalso; rw [Hbb.out] at hb1; cases hb1; done)
              | (skip
                 have hall : ∀ x, x < k → ((o.getD x 0 : Nat) : Int) ≠ z := by
                   rw [hb1, Bool.true_and] at hy
                   exact of_decide_eq_true hy.symm
                 have hs : distS n o z = o ++ [z.toNat] := by
                   rw [distS, if_pos]
                   refine ⟨hz0, hzn, fun hm => ?_⟩
                   obtain ⟨i, hi, e⟩ := List.mem_iff_getElem.1 hm
                   refine hall i (by rw [Hp.out]; exact hi) ?_
                   rw [List.getD_eq_getElem?_getD, List.getElem?_eq_getElem hi, Option.getD_some, e]
                   omega
                 have Hs := Lib.hid hs
                 have hcellz := (Fr.of_below hbw : Fr (fun _ => False) wo wr).cell_some Hcell.out (fun h => h)
                 have Hzz := Lib.hid (show z = ((z.toNat : Nat) : Int) by omega)
                 clear hy hbw hs hall hb1
                 go_wp2_with (at_builtin; refine wpList_append_i (B := w.heap.size) rfl (.tmp 55) (.tmp 60) rfl rfl (Hox.out.below ((Below.refl _ _).alloc (Nat.le_refl _) _)) ?pa1 (some ⟨wr.heap.size, 0, none⟩) 1 1 [z.toNat] rfl (Sl.oneN _ _ _ _ Hzz.out) ?pb1 ?pc1)
                 case pa1 => have := HB.out.size; simp; omega
                 case pb1 => omega
                 intro A5 c5 w5 ho5 hb5 hrow5
                 have B5 := Lib.hid ((HB.out.alloc HB.out.size _).trans hb5)
                 have H5 := Lib.hid ho5
                 have HL5 := Lib.hid (own_lo13 hrow5 (by omega))
                 clear ho5 hb5 hrow5 hcellz
                 go_wp2_with fail
                 go_roundw
                 case rel => exact ⟨j + 1, o ++ [z.toNat], A5, c5, by omega, by go_num, by rw [List.length_append, List.length_singleton, ← Hp.out], by rw [List.length_append, List.length_singleton, ← Hp.out]; omega, by rw [List.length_append, List.length_singleton, ← Hp.out, ncells_append]; exact H5.out, B5.out, HL5.out, by rw [Hnext.out, Hs.out]⟩
                 case measure => simp [intOf]; omega)
    · have hend : distL n most l [] = o := by
        rw [Hd.out]
        by_cases hlt : j < q
        · have hjl : j < l.length := by rw [Hl.out]; exact hlt
          rw [List.drop_eq_getElem_cons hjl, distL, if_neg (by rw [← Hp.out]; exact fun e => hgo ⟨hlt, e⟩)]
        · rw [List.drop_of_length_le (by rw [Hl.out]; omega)]
          rfl
      have Hend := Lib.hid hend
      clear hend
      by_cases hlt : j < q
      · have hji : (j : Int) < (q : Int) := by omega
        have hpm : ¬ (p : Int) < most := fun e => hgo ⟨hlt, e⟩
        clear hgo hb
        go_wp2_with fail
        go_ret
        exact ⟨A, c, by rw [Hend.out, ← Hp.out]; rfl, by rw [Hend.out, ← Hp.out]; exact Ho.out.sl, Hb.out, Hlo.out⟩
      · have hji : ¬ (j : Int) < (q : Int) := by omega
        clear hgo hb
        go_wp2_with fail
        go_ret
        exact ⟨A, c, by rw [Hend.out, ← Hp.out]; rfl, by rw [Hend.out, ← Hp.out]; exact Ho.out.sl, Hb.out, Hlo.out⟩
end Go.Proofs.YtajdholblmdnjaaGreatDoor
