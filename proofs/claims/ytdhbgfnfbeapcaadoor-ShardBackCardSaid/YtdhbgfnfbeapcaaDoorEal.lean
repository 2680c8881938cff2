/-
  The document's Put (layer 11). No condition but bounds.
-/
import Derived.Test.YtdhbgfnfbeapcaaDoorEak
namespace Go.Proofs.YtdhbgfnfbeapcaaDoor
open Go.RowKit Go.Proofs
set_option linter.unusedVariables false

set_option maxHeartbeats 800000
set_option maxRecDepth 20000
theorem rsput_no (s : Sh) (hk : s.kn = false) (w : World) : Calls Tryd.prog 9 #[.agg s.cs.toArray] w fun e w' => e = .returned (.tuple #[.slice none 0 0, .int .i64 2]) ∧ Below w.heap.size w w' := by
  have hb : Below w.heap.size w (w.alloc (.cells s.cs.toArray 26)) := (Below.refl _ _).alloc (Nat.le_refl _) _
  have ck := (ShB.new w s).k
  have Hb := Lib.hid hb; clear hb
  have hl := s.kind.toNat_lt
  by_cases h1 : 1 ≤ s.kind.toNat
  · have h2 : ¬ s.kind.toNat ≤ 4 := fun h2 => by simp [Sh.kn, h1, h2] at hk
    have d1 : ¬ (s.kind.toNat : Int) < 1 := by omega
    have d2 : (s.kind.toNat : Int) > 4 := by omega
    clear h1 h2 hk
    go_enter Tryd.func9, Tryd.ntmps9
    go_wp2_with fail
    go_ret2
    exact ⟨rfl, Hb.out⟩
  · have d1 : (s.kind.toNat : Int) < 1 := by omega
    clear h1 hk
    go_enter Tryd.func9, Tryd.ntmps9
    go_wp2_with fail
    go_ret2
    exact ⟨rfl, Hb.out⟩
theorem rsput_yes (s : Sh) (hs : s.Ok) (hk : s.kn = true) (w : World) : Calls Tryd.prog 9 #[.agg s.cs.toArray] w fun e w' => ∃ A c, e = .returned (.tuple #[.slice A 64 c, .int .i64 0]) ∧ Sl w' 1 A 64 c (cells s.sector) ∧ Below w.heap.size w w' := by
  obtain ⟨w0, hw0⟩ : ∃ w0, w0 = w.alloc (.cells s.cs.toArray 26) := ⟨_, rfl⟩
  have hb0 : Below w.heap.size w w0 := by rw [hw0]; exact (Below.refl _ _).alloc (Nat.le_refl _) _
  have hS0 : ShB w0 w.heap.size s := by rw [hw0]; exact ShB.new w s
  have lk := s.kind.toNat_lt
  have lp := hs.place
  have lg := hs.gen
  have lz := hs.size
  simp only [Sh.kn, Bool.and_eq_true, decide_eq_true_eq] at hk
  have d1 : ¬ (s.kind.toNat : Int) < 1 := by omega
  have d2 : ¬ (s.kind.toNat : Int) > 4 := by omega
  have ck := hS0.k
  have ci := hS0.i
  have Hw0 := Lib.hid hw0
  have HB0 := Lib.hid hb0
  have HS0 := Lib.hid hS0
  have HOK := Lib.hid hs
  obtain ⟨w1, hw1⟩ : ∃ w1, w1 = w0.alloc (.cells #[.int .u8 (s.kind.toNat : Int), .int .u8 (s.idx.toNat : Int)] 5) := ⟨_, rfl⟩
  have hb1 : Below w0.heap.size w0 w1 := by rw [hw1]; exact (Below.refl _ _).alloc (Nat.le_refl _) _
  have hs1 : Sl w1 1 (some ⟨w0.heap.size, 0, none⟩) 2 2 (cells [s.kind, s.idx]) := by
    rw [hw1]
    exact Sl.made w0 #[.int .u8 (s.kind.toNat : Int), .int .u8 (s.idx.toNat : Int)] _ 1 2 rfl (by decide)
  have HB1 := Lib.hid hb1
  have hz0 : w.heap.size < w0.heap.size := block_lt hS0
  have HZ0 := Lib.hid hz0
  have HS1 := Lib.hid (hS0.later hb1)
  have HSL1 := Lib.hid hs1
  have cp := (hS0.later hb1).p
  have Hw1 := Lib.hid hw1
  clear hw0 hS0 hk hb0 hs hw1 hb1 hs1 hz0
  go_enter Tryd.func9, Tryd.ntmps9
  go_wp2_with (first | (rw [← Hw0.out]) | (rw [← Hw1.out]))
  have L1 : [s.kind, s.idx].length = 2 := rfl
  clear ck ci cp
  refine (rput_at (some ⟨w0.heap.size, 0, none⟩) 2 2 [s.kind, s.idx] 2 s.place w1 HSL1.out (by decide) (by decide) (by omega) _ _ rfl ?z1).mono ?_
  case z1 => first | rfl | omega
  rintro e w2 ⟨A2, n2, c2, rfl, ho, hb⟩
  obtain ⟨l2, el⟩ : ∃ v, v = [s.kind, s.idx] ++ le 2 s.place := ⟨_, rfl⟩
  rw [← el] at ho
  have L2 : l2.length = 4 := by rw [el, List.length_append, le_length, L1]
  obtain rfl : n2 = 4 := by have := ho.sl.len; rw [cells_length, L2] at this; omega
  have O2 := Lib.hid (ho.lower (B' := w0.heap.size) HB1.out.size)
  have HB2 := Lib.hid (HB1.out.trans (hb.mono HB1.out.size))
  have HS2 := Lib.hid (HS1.out.later hb)
  have N2 := Lib.hid el
  clear ho hb el L1
  have cc := HS2.out.g
  go_wp2_with fail
  refine (rput_at A2 4 c2 l2 8 s.gen w2 O2.out.sl (by decide) (by decide) (by omega) _ _ rfl ?z2).mono ?_
  case z2 => first | rfl | omega
  rintro e w3 ⟨A3, n3, c3, rfl, ho, hb⟩
  obtain ⟨l3, el⟩ : ∃ v, v = l2 ++ le 8 s.gen := ⟨_, rfl⟩
  rw [← el] at ho
  have L3 : l3.length = 12 := by rw [el, List.length_append, le_length, L2]
  obtain rfl : n3 = 12 := by have := ho.sl.len; rw [cells_length, L3] at this; omega
  have O3 := Lib.hid (ho.lower (B' := w0.heap.size) HB2.out.size)
  have HB3 := Lib.hid (HB2.out.trans (hb.mono HB2.out.size))
  have HS3 := Lib.hid (HS2.out.later hb)
  have N3 := Lib.hid el
  clear ho hb el L2
  clear cc
  have cc := HS3.out.z
  go_wp2_with fail
  refine (rput_at A3 12 c3 l3 2 s.size w3 O3.out.sl (by decide) (by decide) (by omega) _ _ rfl ?z3).mono ?_
  case z3 => first | rfl | omega
  rintro e w4 ⟨A4, n4, c4, rfl, ho, hb⟩
  obtain ⟨l4, el⟩ : ∃ v, v = l3 ++ le 2 s.size := ⟨_, rfl⟩
  rw [← el] at ho
  have L4 : l4.length = 14 := by rw [el, List.length_append, le_length, L3]
  obtain rfl : n4 = 14 := by have := ho.sl.len; rw [cells_length, L4] at this; omega
  have O4 := Lib.hid (ho.lower (B' := w0.heap.size) HB3.out.size)
  have HB4 := Lib.hid (HB3.out.trans (hb.mono HB3.out.size))
  have HS4 := Lib.hid (HS3.out.later hb)
  have N4 := Lib.hid el
  clear ho hb el L3
  clear cc
  have hz2 : Sl (w4.alloc (.cells #[.int .u8 0, .int .u8 0] 5)) 1 (some ⟨w4.heap.size, 0, none⟩) 2 2 (cells [0, 0]) := Sl.made w4 #[.int .u8 0, .int .u8 0] _ 1 2 rfl (by decide)
  have HZ := Lib.hid hz2
  clear hz2
  go_wp2_with (at_builtin; refine wpList_append_b (B := w0.heap.size) rfl (.tmp 33) (.tmp 34) rfl rfl (O4.out.alloc _) ?c1 (some ⟨w4.heap.size, 0, none⟩) 2 2 [0, 0] rfl HZ.out ?c3 ?c4)
  case c1 => have := HB4.out.size; simp; omega
  case c3 => omega
  intro A5 c5 w5 ho hb
  rw [← cells_append] at ho
  obtain ⟨l5, el⟩ : ∃ v, v = l4 ++ [0, 0] := ⟨_, rfl⟩
  rw [← el] at ho
  have L5 : l5.length = 16 := by rw [el, List.length_append, L4]; rfl
  have hb5 : Below w0.heap.size w0 w5 := (HB4.out.alloc HB4.out.size _).trans hb
  have hs5 : ShB w5 w.heap.size s := HS0.out.below hb5 HZ0.out
  have N5 := Lib.hid el
  have O5 := Lib.hid ho
  have HB5 := Lib.hid hb5
  have HS5 := Lib.hid hs5
  clear el ho hb hb5 hs5 L4
  go_wp2_with fail
  go_loopw [4, 5] (fun v i wr => ∃ (k : Nat) (A' : Option Addr) (c' : Nat), k ≤ 44 ∧ i = .int .i64 (k : Int) ∧ v = .slice A' (16 + k) c' ∧ Own wr w0.heap.size 5 1 A' (16 + k) c' (cells (l5 ++ (pad44 s.body).take k)) ∧ Below w0.heap.size w0 wr) (fun _ i _ => 44 - (intOf i).toNat)
  case atStart => exact ⟨0, A5, c5, by omega, rfl, rfl, by rw [List.take_zero, List.append_nil]; exact O5.out, HB5.out⟩
  case round =>
    obtain ⟨k, A', c', hk, rfl, rfl, ho, hb⟩ := hrel
    by_cases hlt : k < 44
    · have hcell : wr.cell? ⟨w.heap.size, 5 + k, none⟩ = some (.int .u8 ((s.body.getD k 0).toNat : Int)) := (HS0.out.below hb HZ0.out).byte hlt
      obtain ⟨u, hu⟩ : ∃ u, u = s.body.getD k 0 := ⟨_, rfl⟩
      rw [← hu] at hcell
      have HU := Lib.hid hu
      have Ho := Lib.hid ho
      have Hb := Lib.hid hb
      clear hu ho hb
      have hlt44 : (k : Int) < 44 := by omega
      go_wp2_with (at_builtin; refine wpList_append_b (B := w0.heap.size) rfl (.tmp 40) (.tmp 45) rfl rfl (Ho.out.alloc _) ?d1 (some ⟨wr.heap.size, 0, none⟩) 1 1 [u] rfl (Sl.one _ _ _ _ rfl) ?d3 ?d4)
      case d1 => have := Hb.out.size; simp; omega
      case d3 => omega
      intro A2' c2' w6 ho2 hb2
      have Ho2 := Lib.hid ho2
      have Hb2 := Lib.hid hb2
      clear ho2 hb2
      go_wp2_with fail
      go_roundw
      case rel => exact ⟨k + 1, A2', c2', by omega, by go_num, by rw [Nat.add_assoc], by
        have := Ho2.out
        rw [← cells_append, List.append_assoc] at this
        have e : (pad44 s.body).take (k + 1) = (pad44 s.body).take k ++ [u] := by
          rw [List.take_add_one, HU.out]
          simp [pad44, hlt]
        rw [e, ← Nat.add_assoc]
        exact this, (Hb.out.alloc Hb.out.size _).trans Hb2.out⟩
      case measure => simp [intOf]; omega
    · obtain rfl : k = 44 := by omega
      have hh := rclosed_any A' 60 c' _ wr ho.sl (by decide)
      have e : l5 ++ (pad44 s.body).take 44 = s.head := by
        rw [List.take_of_length_le (by rw [pad44_len]; exact Nat.le_refl _), pad44_eq HOK.out.body, N5.out, N4.out, N3.out, N2.out, Sh.head]
      rw [e] at hh
      have Hb := Lib.hid hb
      have hlt44 : ¬ ((44 : Nat) : Int) < 44 := by omega
      clear ho hb e hlt hk
      go_wp2_with fail
      refine hh.mono ?_; clear hh; rintro e w7 ⟨A7, n7, c7, rfl, ho, hb⟩
      have hl := HOK.out.sector_len
      obtain rfl : n7 = 64 := by
        have h1 := ho.sl.len
        rw [cells_length] at h1
        have h2 : (closed s.head).length = 64 := hl
        omega
      have HO := Lib.hid ho
      have HB := Lib.hid hb
      clear ho hb hl
      go_wp2_with fail
      go_ret2
      exact ⟨A7, c7, rfl, HO.out.sl, (HB0.out.trans ((Hb.out.trans (HB.out.mono Hb.out.size)).mono HB0.out.size))⟩
end Go.Proofs.YtdhbgfnfbeapcaaDoor
