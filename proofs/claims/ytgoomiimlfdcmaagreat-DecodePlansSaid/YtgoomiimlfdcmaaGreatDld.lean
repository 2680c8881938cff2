/-
  The contract of package decode's apart: numbers that were met stand in a map. No condition but bounds.
-/
import Derived.Test.YtgoomiimlfdcmaaGreatDlc
import Derived.Test.YtgoomiimlfdcmaaGreatInt
import Derived.Maps.OwnOps
import Derived.Maps.Views
namespace Go.Proofs.YtgoomiimlfdcmaaGreat
open Go.RowKit Go.Proofs Go.Maps
set_option linter.unusedVariables false

/-- Are these numbers of one of n each, none of them twice? -/
def apartB (xs : List Int) (n : Nat) : Bool := decide (xs.Nodup ∧ ∀ z ∈ xs, 0 ≤ z ∧ z < (n : Int))

theorem keyedI : Keyed Tryz.prog 3 := int_keyed Tryz.underlying3
theorem zeroI (w : World) : (zeroValue 3).run Tryz.prog w = .ok (.int .i64 0) w := by kernel_rfl
theorem lit_inj {a b : Int} (h : (DataW.lit (.int .i64 a) : DataW Unit) = .lit (.int .i64 b)) : a = b := by
  injection h with h
  injection h
theorem wf_of {x : Int} (h : -9223372036854775808 ≤ x ∧ x < 9223372036854775808) : (Lit.int .i64 x).wf = true := by
  have e1 : IntKind.i64.min = -9223372036854775808 := by decide
  have e2 : IntKind.i64.max = 9223372036854775807 := by decide
  show (decide (_ ≤ x) && decide (x ≤ _)) = true
  rw [e1, e2, Bool.and_eq_true]
  exact ⟨decide_eq_true h.1, decide_eq_true (by omega)⟩
/-- Each number's count. -/
structure Met (D : DataW Unit) (l : List Int) : Prop where
  map : IsMap D
  at_ : ∀ z : Int, D.atKey (.int .i64 z) (.lit (.int .i64 0)) = .lit (.int .i64 (if z ∈ l then 1 else 0))

theorem ownsMap_below {w w' : World} {b n : Nat} {D : DataW Unit} {R : Value → Option (DataW Unit × List MemPlace)} (h : w.ownsMap Tryz.prog 3 R b n D) (hb : Below w.heap.size w w') : w'.ownsMap Tryz.prog 3 R b n D := by
  have hbl := h.lt
  obtain ⟨es, clock, h1, h2, h3, h4⟩ := h
  exact ⟨es, clock, (hb.block b hbl).trans h1, h2, h3, h4⟩
theorem Met.step {D : DataW Unit} {l : List Int} (h : Met D l) {x : Int} (hx : x ∉ l) : Met (D.put (.int .i64 x) (.lit (.int .i64 1))) (l ++ [x]) := by
  refine ⟨h.map.put _ _, fun z => ?_⟩
  by_cases hz : z = x
  · subst hz
    rw [atKey_put_same (k := Lit.int .i64 _) h.map (by trivial), if_pos (by simp)]
  · rw [atKey_put_other (by intro e; injection e with _ e; exact hz e), h.at_ z]
    congr 2
    simp [hz]

set_option maxRecDepth 100000 in
set_option maxHeartbeats 1600000 in
theorem apart_any (C k m F T : Nat) (A : Option Addr) (n c : Nat) (xs : List Int) (w : World) (h : Cod w C k m F T) (hs : Sl w 1 A n c (icells xs)) (hz : ∀ z ∈ xs, -9223372036854775808 ≤ z ∧ z < 9223372036854775808) (hn : n ≤ 1048576) :
    Calls Tryz.prog 36 #[.pointer (some ⟨C, 0, none⟩), .slice A n c] w fun e w' => e = .returned (.bool (apartB xs (k + m))) ∧ Below w.heap.size w w' := by
  have hmm := @run_makeMap Tryz.prog
  have hxl : xs.length = n := by
    have := hs.len
    rw [icells_length] at this
    omega
  have H := Lib.hid h; clear h
  have Hs := Lib.hid hs; clear hs
  have Hz := Lib.hid hz; clear hz
  have Hxl := Lib.hid hxl; clear hxl
  go_enter Tryz.func36, Tryz.ntmps36
  go_wp2_with fail
  clear hmm
  go_loopw [11] (fun i wr => ∃ (j : Nat) (D : DataW Unit), j ≤ n ∧ i = .int .i64 (j : Int) ∧ wr.ownsMap Tryz.prog 3 (plainElem Tryz.prog 3) w.heap.size j D ∧ Met D (xs.take j) ∧ (xs.take j).Nodup ∧ (∀ z ∈ xs.take j, 0 ≤ z ∧ z < ((k + m : Nat) : Int)) ∧ Below w.heap.size w wr) (fun i _ => n - (intOf i).toNat)
  case atStart => exact ⟨0, .map [], by omega, rfl, World.ownsMap_made _ _ _ _, ⟨⟨_, rfl⟩, fun z => by simp [WideAt.atKey_none]⟩, by simp, by simp, (Below.refl _ _).alloc (Nat.le_refl _) _⟩
  case round =>
    obtain ⟨j, D, hj, rfl, hown, hD, hnd, hin, hb⟩ := hrel
    have hwin := hb.size
    have Hown := Lib.hid hown
    have HD := Lib.hid hD
    have Hnd := Lib.hid hnd
    have Hin := Lib.hid hin
    have Hb := Lib.hid hb
    clear hown hD hnd hin hb
    by_cases hlt : j < n
    · have hjl : j < xs.length := by rw [Hxl.out]; exact hlt
      obtain ⟨b1, o1, rfl, hc⟩ := (Hs.out.below Hb.out (Nat.le_refl _)).at_ hlt
      have hcell := hc j _ (icells_get xs j hjl)
      clear hc
      have hxw := Hz.out _ (List.getElem_mem hjl)
      obtain ⟨x, hx⟩ : ∃ x, x = xs[j] := ⟨_, rfl⟩
      rw [← hx] at hcell hxw
      have hnext : xs.take (j + 1) = xs.take j ++ [x] := by rw [hx]; simp
      have Hx := Lib.hid hx; clear hx
      have Hnext := Lib.hid hnext; clear hnext
      have hkey : keyOf Tryz.prog 3 (.int .i64 x) = some (.int .i64 x) := keyOf_int_mk Tryz.underlying3 (wf_of hxw)
      have hown := Hown.out
      by_cases hmem : x ∈ xs.take j
      · have hat0 : D.atKey (.int .i64 x) (.lit (.int .i64 0)) = .lit (.int .i64 1) := by rw [HD.out.at_, if_pos hmem]
        have Hmem := Lib.hid hmem; clear hmem
        go_wp2_with (first
          | (at_lookup; refine wpList_lookup_own_int _ rfl _ _ 108 rfl 3 3 .i64 keyedI Tryz.underlying108 Tryz.underlying3 (zeroI _) w.heap.size j _ rfl hown _ _ rfl hkey ?_; intro c hat hwc; obtain rfl := lit_inj (hat0.symm.trans hat); clear hat hwc)
          | (at_mapUpdate; refine wpList_mapUpdate_own _ rfl _ _ _ 108 rfl 3 3 keyedI Tryz.underlying108 _ w.heap.size j _ rfl hown (by unfold maxLen; omega) _ _ _ rfl rfl hkey _ [] (plainElem_int Tryz.underlying3 (by decide)) ?_; intro w1 hown1 hgrow1))
        have hb1 := Hb.out.grown hgrow1 hwin (fun j hj => by cases hj; exact Nat.le_refl _)
        have hhas := dhas_any C k m F T x w1 (H.out.later hb1)
        have hown1 : w1.ownsMap Tryz.prog 3 (plainElem Tryz.prog 3) w.heap.size (j + 1) (D.put (.int .i64 x) (.lit (.int .i64 2))) := hown1
        have Hown1 := Lib.hid hown1
        have Hb1 := Lib.hid hb1
        have hw1s := hb1.size
        clear hown hown1 hgrow1 hb1
        by_cases hw : 0 ≤ x ∧ x < ((k + m : Nat) : Int)
        · rw [withinB_t hw] at hhas
          have Hw := Lib.hid hw; clear hw
          refine hhas.mono ?_; clear hhas; rintro e w2 ⟨rfl, hb2⟩
          have hown2 := ownsMap_below Hown1.out hb2
          have hat2 : (D.put (.int .i64 x) (.lit (.int .i64 2))).atKey (.int .i64 x) (.lit (.int .i64 0)) = .lit (.int .i64 2) := atKey_put_same (k := Lit.int .i64 _) HD.out.map (by trivial) _ _
          have Hb2 := Lib.hid (Hb1.out.trans (hb2.mono hw1s))
          have Hown2 := Lib.hid hown2
          clear hb2
          obtain ⟨c, hlk, hat, _⟩ := hown2.lookup_int (t := 108) keyedI Tryz.underlying108 Tryz.underlying3 (zeroI _) hkey
          obtain rfl := lit_inj (hat2.symm.trans hat)
          clear hat hown2 hat2
          go_wp2_with fail
          clear hlk
          go_ret
          have hf : apartB xs (k + m) = false := decide_eq_false fun hh => by
            have h1 := hh.1.sublist (List.take_sublist (j + 1) xs)
            rw [Hnext.out, List.nodup_append] at h1
            exact h1.2.2 x Hmem.out x (by simp) rfl
          exact ⟨by rw [hf]; rfl, Hb2.out⟩
        · rw [withinB_f hw] at hhas
          have Hw := Lib.hid hw; clear hw
          refine hhas.mono ?_; clear hhas; rintro e w2 ⟨rfl, hb2⟩
          have Hb2 := Lib.hid (Hb1.out.trans (hb2.mono hw1s)); clear hb2
          go_wp2_with fail
          go_ret
          have hf : apartB xs (k + m) = false := decide_eq_false fun hh => Hw.out (hh.2 x (by rw [Hx.out]; exact List.getElem_mem hjl))
          exact ⟨by rw [hf]; rfl, Hb2.out⟩
      · have hat0 : D.atKey (.int .i64 x) (.lit (.int .i64 0)) = .lit (.int .i64 0) := by rw [HD.out.at_, if_neg hmem]
        have Hmem := Lib.hid hmem; clear hmem
        go_wp2_with (first
          | (at_lookup; refine wpList_lookup_own_int _ rfl _ _ 108 rfl 3 3 .i64 keyedI Tryz.underlying108 Tryz.underlying3 (zeroI _) w.heap.size j _ rfl hown _ _ rfl hkey ?_; intro c hat hwc; obtain rfl := lit_inj (hat0.symm.trans hat); clear hat hwc)
          | (at_mapUpdate; refine wpList_mapUpdate_own _ rfl _ _ _ 108 rfl 3 3 keyedI Tryz.underlying108 _ w.heap.size j _ rfl hown (by unfold maxLen; omega) _ _ _ rfl rfl hkey _ [] (plainElem_int Tryz.underlying3 (by decide)) ?_; intro w1 hown1 hgrow1))
        have hb1 := Hb.out.grown hgrow1 hwin (fun j hj => by cases hj; exact Nat.le_refl _)
        have hhas := dhas_any C k m F T x w1 (H.out.later hb1)
        have hown1 : w1.ownsMap Tryz.prog 3 (plainElem Tryz.prog 3) w.heap.size (j + 1) (D.put (.int .i64 x) (.lit (.int .i64 1))) := hown1
        have Hown1 := Lib.hid hown1
        have Hb1 := Lib.hid hb1
        have hw1s := hb1.size
        clear hown hown1 hgrow1 hb1
        by_cases hw : 0 ≤ x ∧ x < ((k + m : Nat) : Int)
        · rw [withinB_t hw] at hhas
          have Hw := Lib.hid hw; clear hw
          refine hhas.mono ?_; clear hhas; rintro e w2 ⟨rfl, hb2⟩
          have hown2 := ownsMap_below Hown1.out hb2
          have hat2 : (D.put (.int .i64 x) (.lit (.int .i64 1))).atKey (.int .i64 x) (.lit (.int .i64 0)) = .lit (.int .i64 1) := atKey_put_same (k := Lit.int .i64 _) HD.out.map (by trivial) _ _
          have Hb2 := Lib.hid (Hb1.out.trans (hb2.mono hw1s))
          have Hown2 := Lib.hid hown2
          clear hb2
          obtain ⟨c, hlk, hat, _⟩ := hown2.lookup_int (t := 108) keyedI Tryz.underlying108 Tryz.underlying3 (zeroI _) hkey
          obtain rfl := lit_inj (hat2.symm.trans hat)
          clear hat hown2 hat2
          go_wp2_with fail
          clear hlk
          go_roundw
          case rel => exact ⟨j + 1, _, by omega, by go_num, Hown2.out, by rw [Hnext.out]; exact HD.out.step Hmem.out, by
              rw [Hnext.out, List.nodup_append]
              exact ⟨Hnd.out, by simp, fun a ha b hb => by simp at hb; subst hb; rintro rfl; exact Hmem.out ha⟩, fun z hz => by
              rw [Hnext.out, List.mem_append] at hz
              rcases hz with hz | hz
              · exact Hin.out z hz
              · simp at hz; subst hz; exact Hw.out, Hb2.out⟩
          case measure => simp [intOf]; omega
        · rw [withinB_f hw] at hhas
          have Hw := Lib.hid hw; clear hw
          refine hhas.mono ?_; clear hhas; rintro e w2 ⟨rfl, hb2⟩
          have Hb2 := Lib.hid (Hb1.out.trans (hb2.mono hw1s)); clear hb2
          go_wp2_with fail
          go_ret
          have hf : apartB xs (k + m) = false := decide_eq_false fun hh => Hw.out (hh.2 x (by rw [Hx.out]; exact List.getElem_mem hjl))
          exact ⟨by rw [hf]; rfl, Hb2.out⟩
    · obtain rfl : j = n := by omega
      have hfin : apartB xs (k + m) = true := by
        rw [List.take_of_length_le (by rw [Hxl.out]; exact Nat.le_refl _)] at Hnd Hin
        exact decide_eq_true ⟨Hnd.out, Hin.out⟩
      have Hfin := Lib.hid hfin; clear hfin
      go_wp2_with fail
      go_ret
      exact ⟨by rw [Hfin.out]; rfl, Hb.out⟩
end Go.Proofs.YtgoomiimlfdcmaaGreat
