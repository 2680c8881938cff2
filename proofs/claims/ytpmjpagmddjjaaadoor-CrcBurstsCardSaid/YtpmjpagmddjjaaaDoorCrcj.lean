/-
  The statements' functions CrcChanges and CrcBursts return true, whatever their arguments. Condition: the table reads as the row lists it ('Nt').
-/
import Derived.Test.YtpmjpagmddjjaaaDoorCrch
import Derived.Test.YtpmjpagmddjjaaaDoorCrci
import Derived.RegionTactic
import Derived.Outline
import Derived.Deep.DeepCutAuto
namespace Go.Proofs.YtpmjpagmddjjaaaDoor
open Go.RowKit
set_option linter.unusedVariables false

/-- A write into cells of the call's own. -/
theorem Mine.set {w : World} {B n g j : Nat} {e : TypeId} {l : List UInt8} (h : Mine w B e (some ⟨g, 0, none⟩) n (cells l)) (hj : j < n) (u : UInt8) : Mine (w.setCell ⟨g, j, none⟩ (.int .u8 (u.toNat : Int))) B e (some ⟨g, 0, none⟩) n (cells (l.set j u)) := by
  intro hn
  obtain ⟨g', cur, hA, hb, hg, hs, ht⟩ := h hn
  injection hA with hA
  injection hA with hA _
  subst hA
  refine ⟨g, _, rfl, hb, heap_setCell_same w g j cur e _ hg, by rw [Array.size_setIfInBounds]; exact hs, ?_⟩
  rw [Array.toList_setIfInBounds, List.take_set, ht, cells, cells, List.map_set]
  rfl
theorem Mine.at_ {w : World} {B n j : Nat} {e : TypeId} {A : Option Addr} {l : List UInt8} {u : UInt8} (h : Mine w B e A n (cells l)) (hj : j < n) (hu : l[j]? = some u) :
    ∃ g, A = some ⟨g, 0, none⟩ ∧ B ≤ g ∧ w.cell? ⟨g, j, none⟩ = some (.int .u8 (u.toNat : Int)) ∧ w.frozen? ⟨g, j, none⟩ = false := by
  obtain ⟨g, cur, rfl, hb, hg, hs, ht⟩ := h (by omega)
  refine ⟨g, rfl, hb, ?_, frozen_of_row _ _ _ _ _ hg⟩
  rw [cell_of_row _ _ _ _ _ _ hg]
  have h1 : (cells l)[j]? = some (bv u) := by simp [cells, hu]
  rw [← ht, List.getElem?_take_of_lt hj] at h1
  simpa [bv] using h1
theorem Mine.sl {w : World} {B n c : Nat} {e : TypeId} {A : Option Addr} {l : List UInt8} (h : Mine w B e A n (cells l)) (hl : l.length = n) (hc : n ≤ c) (h63 : c ≤ maxLen) : Sl w 1 A n c (cells l) :=
  ⟨by rw [cells_length, hl, Nat.mul_one], hc, h63, fun j u hu => by
    have hj : j < n := by
      rcases Nat.lt_or_ge j n with h' | h'
      · exact h'
      · rw [List.getElem?_eq_none (by rw [cells_length, hl]; exact h')] at hu
        cases hu
    obtain ⟨g, cur, rfl, _, hg, _, ht⟩ := h (by omega)
    refine ⟨g, 0, rfl, ?_⟩
    rw [Nat.zero_add, cell_of_row _ _ _ _ _ _ hg]
    rw [← ht, List.getElem?_take_of_lt hj] at hu
    simpa using hu⟩
theorem Mine.later {w w' : World} {B n : Nat} {e : TypeId} {A : Option Addr} {xs : List Value} (h : Mine w B e A n xs) (hb : Below w.heap.size w w') : Mine w' B e A n xs := by
  intro hn
  obtain ⟨g, cur, hA, hB, hg, hs, ht⟩ := h hn
  refine ⟨g, cur, hA, hB, ?_, hs, ht⟩
  have h0 : g < w.heap.size := by
    rcases Nat.lt_or_ge g w.heap.size with h' | h'
    · exact h'
    · rw [Array.getElem?_eq_none h'] at hg
      cases hg
  rw [hb.block _ h0]
  exact hg

theorem xor_b (x y : UInt8) : bits .xor .u8 (x.toNat : Int) (y.toNat : Int) = ((x ^^^ y).toNat : Int) := by
  rw [u8_xor_nat _ _ x.toNat_lt y.toNat_lt, UInt8.toNat_xor]

/-- What the cut ahead of the copy leaves: where the mask is laid. -/
def AtK (n m : Nat) (w : World) (v : Value) (wx : World) : Prop := ∃ k : Nat, k + m ≤ n ∧ v = .int .i64 (k : Int) ∧ w = wx

set_option maxHeartbeats 1000000 in
set_option maxRecDepth 20000 in
theorem crcChanges_walk (A : Option Addr) (n cp : Nat) (l : List UInt8) (at_ : Int) (ha1 : -9223372036854775808 ≤ at_) (ha2 : at_ < 9223372036854775808) (B : Option Addr) (m cq : Nat) (r : List UInt8) (w : World) (hs : Sl w 1 A n cp (cells l)) (hr : Sl w 1 B m cq (cells r)) (h : Nt w) :
    Calls Tryd.prog 6 #[.slice A n cp, .int .i64 at_, .slice B m cq] w (SaysTrue w) := by
  have hn := hs.lim
  have hm := hr.lim
  unfold maxLen at hn hm
  have hrl := hr.len
  rw [cells_length, Nat.mul_one] at hrl
  have hsl := hs.len
  rw [cells_length, Nat.mul_one] at hsl
  have H := Lib.hid h; clear h
  have Hs := Lib.hid hs; clear hs
  have Hr := Lib.hid hr; clear hr
  have Hrl := Lib.hid hrl; clear hrl
  have Hsl := Lib.hid hsl; clear hsl
  by_cases hbig : n > 3000
  · have hd : decide ((n : Int) > 3000) = true := by simp; omega
    go_enter Tryd.func6, Tryd.ntmps6
    go_wp2_with fail
    refine (summed_any _ H.out).mono ?_; rintro e w1 ⟨rfl, hq⟩
    have hb1 : Below w.heap.size w w1 := hq
    clear hq
    go_wp2_with fail
    go_ret
    exact ⟨rfl, hb1⟩
  have hd : decide ((n : Int) > 3000) = false := by simp; omega
  by_cases hbig2 : m > n
  · have hb' : decide (n < m) = true := by simpa using hbig2
    go_enter Tryd.func6, Tryd.ntmps6
    go_wp2_with fail
    refine (summed_any _ H.out).mono ?_; rintro e w1 ⟨rfl, hq⟩
    have hb1 : Below w.heap.size w w1 := hq
    clear hq
    go_wp2_with fail
    go_ret
    exact ⟨rfl, hb1⟩
  have hb' : decide (n < m) = false := by simp; omega
  go_enter Tryd.func6, Tryd.ntmps6
  go_upto_region 3 with (fail)
  go_cut [7] (fun v wx => AtK n m w v wx)
  case first =>
    go_wp2_with fail
    all_goals
      go_meet
      exact ⟨(max 0 (min at_ ((n : Int) - m))).toNat, by omega, by congr 1; omega, rfl⟩
  case rest =>
    obtain ⟨k, hk, rfl, rfl⟩ := hcut
    go_wp2_with (at_builtin; refine wpList_append_bm (B := w.heap.size) rfl (.tmp 29) (.tmp 30) rfl rfl (Own.full (Sl.nil _ _ _ (by decide))) (Nat.le_refl _) A n cp l rfl Hs.out ?c3 ?c4)
    case c3 => omega
    intro A1 c1 w1 ho1 hb1 hm1
    have hcap1 := ho1.sl.cap
    have htop1 := ho1.sl.top
    have hmine : Mine w1 w.heap.size 5 A1 n (cells l) := fun h0 => Mine.of_own (hm1 h0) h0
    have Hm1 := Lib.hid hmine; clear hmine hm1 ho1
    go_wp2_with fail
    go_loopw [9] (fun i wr => ∃ j : Nat, j ≤ m ∧ i = .int .i64 (j : Int) ∧ Below w.heap.size w wr ∧ Mine wr w.heap.size 5 A1 n (cells (chg l k r j))) (fun i _ => m - (intOf i).toNat)
    case atStart => exact ⟨0, by omega, rfl, hb1, by rw [chg_zero]; exact Hm1.out⟩
    case round =>
      obtain ⟨j, hj, rfl, hb, hmj⟩ := hrel
      have Hm := Lib.hid hmj; clear hmj
      by_cases hlt : j < m
      · have hkl : k + j < l.length := by rw [Hsl.out]; omega
        have hjr : j < r.length := by rw [Hrl.out]; exact hlt
        obtain ⟨g, rfl, hBg, hcell, hfz⟩ := Hm.out.at_ (by omega) (chg_at l k r j hkl)
        obtain ⟨b, o, rfl, hc⟩ := (Hr.out.below hb (Nat.le_refl _)).at_ hlt
        have hcell2 := hc j _ (cells_get r j hjr)
        have Hc := Lib.hid hc; clear hc
        rw [bv] at hcell2
        obtain ⟨x, hx⟩ : ∃ x, x = l[k + j] := ⟨_, rfl⟩
        obtain ⟨y, hy⟩ : ∃ y, y = r[j] := ⟨_, rfl⟩
        rw [← hx] at hcell
        rw [← hy] at hcell2
        have Hx := Lib.hid hx; clear hx
        have Hy := Lib.hid hy; clear hy
        go_wp2_with fail
        go_region
        all_goals
          go_wp2_with fail
          go_roundw
          case rel => exact ⟨j + 1, by omega, by go_num, (Below.drew hb).setCell hBg _, by rw [xor_b, ← chg_next l k r j hkl hjr, ← Hx.out, ← Hy.out]; exact (Hm.out.later (Below.drew (Below.refl _ _))).set (by omega) _⟩
          case measure => simp [intOf]; omega
      · obtain rfl : j = m := by omega
        have Hsw := Lib.hid (Hm.out.sl (by rw [chg_length]; exact Hsl.out) hcap1 htop1)
        have e1 := Lib.hid (show more 0 (chg l k r j) = turnedW (more 0 l) r ((n : Int) - j - k).toNat by
          have h3 := Hrl.out
          have h4 := Hsl.out
          have := chg_sum l k r (by omega)
          rw [h3] at this
          rw [this]
          congr 1
          omega)
        clear hb1
        have hb1 := hb
        clear hb
        have hb2 : Below w.heap.size w wr := hb1
        go_wp2_with fail
        refine (sum_any A1 n c1 (chg l k r j) _ Hsw.out (H.out.keep hb2)).mono ?_; rintro e w3 ⟨rfl, hq⟩
        have hb3 : Below w.heap.size w w3 := hb2.trans (hq.mono hb2.size)
        clear hq
        rw [e1.out]
        go_wp2_with fail
        refine (sum_any A n cp l _ (Hs.out.below hb3 (Nat.le_refl _)) (H.out.keep hb3)).mono ?_; rintro e w4 ⟨rfl, hq⟩
        have hb4 : Below w.heap.size w w4 := hb3.trans (hq.mono hb3.size)
        clear hq
        go_wp2_with fail
        refine (turned_any (more 0 l) B j cq r ((n : Int) - j - k) _ (Hr.out.below hb4 (Nat.le_refl _)) (by omega) (by omega) (H.out.keep hb4)).mono ?_; rintro e w5 ⟨rfl, hq⟩
        have hb5 : Below w.heap.size w w5 := hb4.trans (hq.mono hb4.size)
        clear hq
        go_wp2_with fail
        refine (summed_any _ (H.out.keep hb5)).mono ?_; rintro e w6 ⟨rfl, hq⟩
        have hb6 : Below w.heap.size w w6 := hb5.trans (hq.mono hb5.size)
        clear hq
        go_wp2_with fail
        go_ret
        exact ⟨rfl, hb6⟩
end Go.Proofs.YtpmjpagmddjjaaaDoor
