/-
  Contracts of the document's answers of layer 3 on rows: Scale, Fold, Dot. No condition.
-/
import Derived.Test.YtccnoflgbopjlaaFdh
namespace Go.Proofs.Ytccnoflgbopjlaa
open Go.RowKit
set_option linter.unusedVariables false

theorem map_snoc (c : UInt8) (r : List UInt8) (k : Nat) (h : k < r.length) : (r.map (gm c)).take k ++ [gm c r[k]] = (r.map (gm c)).take (k + 1) := by
  have h1 : k < (r.map (gm c)).length := by rw [List.length_map]; exact h
  rw [← List.take_append_getElem h1, List.getElem_map]


theorem fld_snoc (c : UInt8) (r l : List UInt8) (k : Nat) (h : k < l.length) : (fld c r l).take k ++ [l[k] ^^^ gm c (r.getD k 0)] = (fld c r l).take (k + 1) := by
  have h1 : k < (fld c r l).length := by rw [fld_length]; exact h
  rw [← List.take_append_getElem h1]
  congr 2
  simp [fld]

set_option maxRecDepth 20000 in
set_option maxHeartbeats 1600000 in
theorem rfold_any (c : UInt8) (A : Option Addr) (m cq : Nat) (r : List UInt8) (A0 : Option Addr) (n cp : Nat) (l : List UInt8) (w : World) (hr : Sl w 1 A m cq (cells r)) (hl : Sl w 1 A0 n cp (cells l)) (h47 : n ≤ 140737488355327) :
    Calls Try.prog 47 #[.int .u8 (c.toNat : Int), .slice A m cq, .slice A0 n cp] w (RetBytes w.heap.size w (fld c r l)) := by
  have hrl := hr.len
  have hll := hl.len
  have hmx := hr.lim
  unfold maxLen at hmx
  rw [cells_length, Nat.mul_one] at hrl hll
  have Hr := Lib.hid hr; clear hr
  have Hrl := Lib.hid hrl; clear hrl
  have Hs := Lib.hid hl; clear hl
  have Hll := Lib.hid hll; clear hll
  go_enter Try.func47, Try.ntmps47
  go_wp2_with fail
  go_loopw [7, 8] (fun v i wr => ∃ (k : Nat) (A' : Option Addr) (c' : Nat), k ≤ n ∧ i = .int .i64 (k : Int) ∧ v = .slice A' k c' ∧ Own wr w.heap.size 5 1 A' k c' (cells ((fld c r l).take k)) ∧ Below w.heap.size w wr) (fun _ i _ => n - (intOf i).toNat)
  case atStart => exact ⟨0, none, 0, by omega, rfl, rfl, Own.full (Sl.nil w 1 0 (by decide)), Below.refl _ _⟩
  case round =>
    obtain ⟨k, A', c', hk, rfl, rfl, ho, hb⟩ := hrel
    have Ho := Lib.hid ho; clear ho
    by_cases hlt : k < n
    · have hkl : k < l.length := by rw [Hll.out]; exact hlt
      obtain ⟨b, o, rfl, hc⟩ := (Hs.out.below hb (Nat.le_refl _)).at_ hlt
      have hcell := hc k _ (cells_get l k hkl)
      have Hc := Lib.hid hc; clear hc
      rw [bv] at hcell
      obtain ⟨x, hx⟩ : ∃ x, x = l[k] := ⟨_, rfl⟩
      rw [← hx] at hcell
      have Hx := Lib.hid hx; clear hx
      by_cases hkm : k < m
      · have hkr : k < r.length := by rw [Hrl.out]; exact hkm
        obtain ⟨b2, o2, rfl, hc2⟩ := (Hr.out.below hb (Nat.le_refl _)).at_ hkm
        have hcell2 := hc2 k _ (cells_get r k hkr)
        have Hc2 := Lib.hid hc2; clear hc2
        rw [bv] at hcell2
        obtain ⟨y, hy⟩ : ∃ y, y = r[k] := ⟨_, rfl⟩
        rw [← hy] at hcell2
        have Hy := Lib.hid hy; clear hy
        go_wp2_with fail
        refine (rmul_any c y _).mono ?_; rintro e w' ⟨rfl, rfl⟩
        go_wp2_with (at_builtin; refine wpList_append_b (B := w.heap.size) rfl (.tmp 32) (.tmp 34) rfl rfl (Ho.out.alloc _) ?c1 (some ⟨w'.heap.size, 0, none⟩) 1 1 [x ^^^ gm c y] rfl (Sl.one _ _ _ _ (xor_b x (gm c y))) ?c3 ?c4)
        case c1 => have := hb.size; simp; omega
        case c3 => omega
        intro A2 c2 w2 ho2 hb2
        go_wp2_with fail
        go_roundw
        case rel => exact ⟨k + 1, A2, c2, by omega, by go_num, rfl, by
          rw [← fld_snoc c r l k hkl, cells_append, ← Hx.out, show r.getD k 0 = y from by rw [Hy.out]; simp [hkr]]
          exact ho2, (hb.alloc hb.size _).trans hb2⟩
        case measure => simp [intOf]; omega
      · have hd : decide (k < m) = false := by simpa using hkm
        have hd2 : decide ((k : Int) < (m : Int)) = false := by simp; omega
        go_wp2_with (at_builtin; refine wpList_append_b (B := w.heap.size) rfl (.tmp 32) (.tmp 34) rfl rfl (Ho.out.alloc _) ?d1 (some ⟨wr.heap.size, 0, none⟩) 1 1 [x] rfl (Sl.one _ _ _ _ rfl) ?d3 ?d4)
        case d1 => have := hb.size; simp; omega
        case d3 => omega
        intro A2 c2 w2 ho2 hb2
        go_wp2_with fail
        go_roundw
        case rel => exact ⟨k + 1, A2, c2, by omega, by go_num, rfl, by
          rw [← fld_snoc c r l k hkl, cells_append, ← Hx.out, show r.getD k 0 = 0 from by
            have : r.length ≤ k := by rw [Hrl.out]; omega
            simp [this], gm_zero, ux0]
          exact ho2, (hb.alloc hb.size _).trans hb2⟩
        case measure => simp [intOf]; omega
    · obtain rfl : k = n := by omega
      go_wp2_with fail
      go_ret
      exact ⟨A', k, c', rfl, by
        have := Ho.out.sl
        rwa [List.take_of_length_le (by rw [fld_length, Hll.out]; exact Nat.le_refl _)] at this, hb⟩

end Go.Proofs.Ytccnoflgbopjlaa
