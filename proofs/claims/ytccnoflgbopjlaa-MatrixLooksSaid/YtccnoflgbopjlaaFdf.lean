/-
  Contracts of package field's rows: add, Scale, Fold, Dot. Condition: the field is one that New made ('Fld').
-/
import Derived.Test.YtccnoflgbopjlaaFde
import Derived.Test.YtccnoflgbopjlaaByt
import Derived.Test.YtccnoflgbopjlaaMine
import Derived.Deep.RegionHeld3
namespace Go.Proofs.Ytccnoflgbopjlaa
open Go.RowKit
set_option linter.unusedVariables false

/-- c times r added to l, as far as l goes. -/
def fld (c : UInt8) (r l : List UInt8) : List UInt8 := l.mapIdx fun i x => x ^^^ gm c (r.getD i 0)
theorem fld_length (c : UInt8) (r l : List UInt8) : (fld c r l).length = l.length := by simp [fld]
theorem fld_get (c : UInt8) (r l : List UInt8) (i : Nat) (h : i < l.length) : (fld c r l)[i]? = some (l[i] ^^^ gm c (r.getD i 0)) := by simp [fld, h]

/-- The same, k places done. -/
def fldN (c : UInt8) (r l : List UInt8) (k : Nat) : List UInt8 := l.mapIdx fun i x => if i < k then x ^^^ gm c (r.getD i 0) else x
theorem fldN_length (c : UInt8) (r l : List UInt8) (k : Nat) : (fldN c r l k).length = l.length := by simp [fldN]
theorem fldN_zero (c : UInt8) (r l : List UInt8) : fldN c r l 0 = l := by
  apply List.ext_getElem
  · simp [fldN]
  · intro i h1 h2
    simp [fldN]
theorem fldN_at (c : UInt8) (r l : List UInt8) (k : Nat) (h : k < l.length) : (fldN c r l k)[k]? = some l[k] := by simp [fldN, h]
theorem fldN_next (c : UInt8) (r l : List UInt8) (k : Nat) (h : k < l.length) (hr : k < r.length) : (fldN c r l k).set k (l[k] ^^^ gm c r[k]) = fldN c r l (k + 1) := by
  apply List.ext_getElem
  · simp [fldN]
  · intro i h1 h2
    rw [List.getElem_set]
    by_cases he : k = i
    · subst he
      simp [fldN, hr]
    · rw [if_neg he]
      have h3 : (i < k + 1) = (i < k) := by apply propext; omega
      simp only [fldN, List.getElem_mapIdx, h3]
theorem fldN_all (c : UInt8) (r l : List UInt8) (k : Nat) (h : l.length ≤ k ∨ r.length ≤ k) : fldN c r l k = fld c r l := by
  apply List.ext_getElem
  · simp [fldN, fld]
  · intro i h1 h2
    simp only [fldN, fld, List.getElem_mapIdx]
    by_cases h3 : i < k
    · rw [if_pos h3]
    · rw [if_neg h3]
      rw [fldN_length] at h1
      have h4 : r.length ≤ i := by omega
      rw [List.getD_eq_getElem?_getD, List.getElem?_eq_none h4, Option.getD_none, gm_zero]
      simp

set_option maxRecDepth 20000 in
set_option maxHeartbeats 1600000 in
theorem add_any (T g n cp : Nat) (l : List UInt8) (A : Option Addr) (m cq : Nat) (r : List UInt8) (c : UInt8) (w : World) (h : Tabs w T 1 0 pwF exF) (B : Nat) (hB : B ≤ w.heap.size)
    (hl : l.length = n) (hn : n ≤ maxLen) (hm : Mine w B 5 (some ⟨g, 0, none⟩) n (cells l)) (hT : T < B) (hr : Sl w 1 A m cq (cells r)) (hA : ∀ b o, 0 < m → A = some ⟨b, o, none⟩ → b < B) :
    Calls Try.prog 67 #[.pointer (some ⟨T, 0, none⟩), .slice (some ⟨g, 0, none⟩) n cp, .int .u8 (c.toNat : Int), .slice A m cq] w fun e w' => e = .returned (.tuple #[]) ∧ Mine w' B 5 (some ⟨g, 0, none⟩) n (cells (fld c r l)) ∧ Below B w w' := by
  have hrl := hr.len
  rw [cells_length, Nat.mul_one] at hrl
  have hmx := hr.lim
  unfold maxLen at hmx hn
  have H := Lib.hid h; clear h
  have Hr := Lib.hid hr; clear hr
  have Hm := Lib.hid hm; clear hm
  have Hrl := Lib.hid hrl; clear hrl
  have Hl := Lib.hid hl; clear hl
  rcases Nat.lt_or_ge m n with hq | hq
  all_goals
    go_enter Try.func67, Try.ntmps67
    go_wp2_with fail
    go_loopw [14] (fun i wr => ∃ j : Nat, j ≤ min n m ∧ i = .int .i64 (j : Int) ∧ Below B w wr ∧ Mine wr B 5 (some ⟨g, 0, none⟩) n (cells (fldN c r l j))) (fun i _ => min n m - (intOf i).toNat)
    case atStart => exact ⟨0, by omega, rfl, Below.refl _ _, by rw [fldN_zero]; exact Hm.out⟩
    case round =>
      obtain ⟨j, hj, rfl, hb, hmj⟩ := hrel
      have Hmj := Lib.hid hmj; clear hmj
      by_cases hlt : j < min n m
      · have hjl : j < l.length := by rw [Hl.out]; omega
        have hjr : j < r.length := by rw [Hrl.out]; omega
        have hjn : j < n := by omega
        have hjm : j < m := by omega
        obtain ⟨g', hg', hBg, hcell, hfz⟩ := Hmj.out.at_ hjn (fldN_at c r l j hjl)
        injection hg' with hg'
        injection hg' with hg' _
        subst hg'
        obtain ⟨b, o, rfl, hcr⟩ := Hr.out.at_ hjm
        have hbB := hA b o (by omega) rfl
        have hcell2 := (hb.cell (p := ⟨b, o + j, none⟩) hbB).trans (hcr j _ (cells_get r j hjr))
        have Hcr := Lib.hid hcr; clear hcr
        rw [bv] at hcell2
        obtain ⟨x, hx⟩ : ∃ x, x = l[j] := ⟨_, rfl⟩
        obtain ⟨y, hy⟩ : ∃ y, y = r[j] := ⟨_, rfl⟩
        rw [← hx] at hcell
        rw [← hy] at hcell2
        have Hx := Lib.hid hx; clear hx
        have Hy := Lib.hid hy; clear hy
        have Ht := Lib.hid (show Tabs wr T 1 0 pwF exF from (hb.block T hT).trans H.out)
        go_wp2_with fail
        go_region_with (go_at_call 58; refine (product_any T c y _ (Ht.out.drew)).mono ?_; rintro e w1 ⟨rfl, kk, rfl⟩)
        all_goals
          go_wp2_with fail
          go_roundw
          case rel =>
            refine ⟨j + 1, by omega, by go_num, (below_drewN hb _).setCell hBg _, ?_⟩
            rw [xor_b, ← fldN_next c r l j hjl hjr, ← Hx.out, ← Hy.out]
            exact (Hmj.out.later (below_drewN (Below.refl _ _) _)).set hjn _
          case measure => simp [intOf]; omega
      · obtain rfl : j = min n m := by omega
        go_wp2_with fail
        go_end0
        exact ⟨rfl, by rw [← fldN_all c r l (min n m) (by rw [Hl.out, Hrl.out]; omega)]; exact Hmj.out, hb⟩
end Go.Proofs.Ytccnoflgbopjlaa
