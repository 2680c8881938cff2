/-
  Layer 10's rows: so many sectors, each fifth one empty. Condition: bounds. (Written by gen_dtk.py.)
-/
import Derived.Test.YtjjoeaneaibklaaDto
import Derived.Deep.DeepCutAuto
namespace Go.Proofs.Ytjjoeaneaibklaa
open Go.RowKit Go.Proofs
set_option linter.unusedVariables false

/-- The first q of the rows. -/
def rowsL (c : UInt8) (q : Nat) : List (List UInt8) := (List.range q).map fun i => if i % 5 = 4 then [] else full (c + UInt8.ofNat i)
theorem rowsL_next (c : UInt8) (t : Nat) : rowsL c (t + 1) = rowsL c t ++ [if t % 5 = 4 then [] else full (c + UInt8.ofNat t)] := by rw [rowsL, List.range_succ, List.map_append]; rfl
theorem rowsL_len (c : UInt8) (q : Nat) : (rowsL c q).length = q := by simp [rowsL]
theorem tmod5 (t : Nat) : Int.tmod (t : Int) 5 = ((t % 5 : Nat) : Int) := by
  rw [Int.tmod_eq_emod_of_nonneg (by omega)]
  omega
def rowsQ (n : Int) : Nat := if 20 < n then 20 else n.toNat
set_option maxRecDepth 100000
set_option maxHeartbeats 3200000
theorem rows10_hi (c : UInt8) (n : Int) (h1 : -9223372036854775808 ≤ n) (h2 : n < 9223372036854775808) (h20 : (20 : Int) < n) (w : World) : Calls Try.prog 20 #[.int .u8 (c.toNat : Int), .int .i64 n] w (RetNs cells (rowsL c (rowsQ n)) w) := by
  unfold RetNs
  rw [rowsL_len]
  obtain ⟨q, hq⟩ : ∃ q, q = rowsQ n := ⟨_, rfl⟩
  rw [← hq]
  have hqn : q = 20 := by rw [hq, rowsQ]; first | rw [if_pos h20] | rw [if_neg h20]
  have hq20 : q ≤ 20 := by omega
  clear hq
  obtain ⟨i0, hi0, hz0, hz1, hz2⟩ := info_parts info_bs10
  have Hi := Lib.hid hi0
  have Hz0 := Lib.hid hz0
  have Hz1 := Lib.hid hz1
  have Hz2 := Lib.hid hz2
  clear hi0 hz0 hz1 hz2
  go_enter Try.func20, Try.ntmps20
  go_wp2_with fail
  go_loopw [5, 6] (fun v i wr => ∃ (t : Nat) (A' : Option Addr) (c' : Nat), t ≤ q ∧ i = .int .i64 (t : Int) ∧ v = .slice A' t c' ∧ Ng cells 40 wr (fun b => w.heap.size ≤ b) A' t c' (rowsL c t) ∧ Below w.heap.size w wr) (fun _ i _ => q - (intOf i).toNat)
  case atStart => exact ⟨0, none, 0, by omega, rfl, rfl, Ng.nil _ _, Below.refl _ _⟩
  case round =>
    obtain ⟨t, A1, c1, ht, rfl, rfl, hg, hB⟩ := hrel
    have HB := Lib.hid hB
    clear hB
    by_cases hlt : t < q
    · have hti : (t : Int) < 20 := by omega
      have hrem := tmod5 t
      obtain ⟨r, hr⟩ : ∃ r, r = t % 5 := ⟨_, rfl⟩
      rw [← hr] at hrem
      have hnx := rowsL_next c t
      rw [← hr] at hnx
      clear hr
      obtain ⟨vs, hv⟩ := hg.vs
      have HV := Lib.hid hv
      clear hg hv
      by_cases h5 : r = 4
      · subst h5
        rw [if_pos rfl] at hnx
        have HNX := Lib.hid hnx
        have RN := Lib.hid HV.out.rn
        clear hnx
        go_wp2_with (at_builtin; refine wpList_append_made (w := wr) (T := 40) (v := .slice none 0 0) rfl (.tmp 16) (.tmp 17) 38 38 rfl i0 (.slice none 0 0) 24 Try.underlying38 Try.underlying38 Hi.out Hz0.out Hz1.out Hz2.out rfl (by decide) rfl RN.out rfl rfl (by omega) ?pd)
        intro A4 c4 w4 hrn4 hf4 ho4
        have NG4 := Lib.hid (show Ng cells 40 w4 (fun b => w.heap.size ≤ b) A4 (t + 1) c4 (rowsL c (t + 1)) by
          rw [HNX.out]
          exact HV.out.push (r := []) (A2 := none) (c2 := 0) (fun b hb => hb) (Sl.nil wr 1 0 (by decide)) (fun b o hn hA => by cases hA) hrn4 hf4 ho4 (fun b hb hlo => by have := HB.out.size; omega))
        have HB4 := Lib.hid (show Below w.heap.size w w4 from HB.out.trans (hf4.below HB.out.size (fun b hb => HV.out.blk b hb)))
        clear hrn4 hf4 ho4 hrem
        go_wp2_with fail
        go_roundw
        case rel => exact ⟨t + 1, A4, c4, by omega, by go_num, rfl, NG4.out, HB4.out⟩
        case measure => simp [intOf]; omega
      · rw [if_neg h5] at hnx
        have h5i : ¬ (r : Int) = 4 := by omega
        have HNX := Lib.hid hnx
        clear hnx
        go_wp2_with fail
        refine (full10 _ (c + UInt8.ofNat t) ?_ wr).mono ?_
        · rw [← byte_next c t (by omega)]
          simp only [IntKind.wrap_u8] <;> omega
        rintro e w3 ⟨A3, c3, rfl, hs3, hb3, hl3⟩
        have RN3 := Lib.hid (HV.out.rn.later hb3)
        have HS3 := Lib.hid hs3
        have HB3 := Lib.hid hb3
        have HL3 := Lib.hid hl3
        clear hs3 hb3 hl3
        go_wp2_with (at_builtin; refine wpList_append_made (w := w3) (T := 40) (v := .slice A3 64 c3) rfl (.tmp 19) (.tmp 25) 38 38 rfl i0 (.slice none 0 0) 24 Try.underlying38 Try.underlying38 Hi.out Hz0.out Hz1.out Hz2.out rfl (by decide) rfl RN3.out rfl rfl (by omega) ?pe)
        intro A4 c4 w4 hrn4 hf4 ho4
        have hz3 := HB3.out.size
        have hz0 := HB.out.size
        have NG4 := Lib.hid (show Ng cells 40 w4 (fun b => w.heap.size ≤ b) A4 (t + 1) c4 (rowsL c (t + 1)) by
          rw [HNX.out]
          have hv3 : Ngv cells 40 w3 (fun b => w.heap.size ≤ b) A1 t c1 (rowsL c t) vs := ⟨RN3.out, fun i r hi => by
            obtain ⟨A', c', g1, g2, g3⟩ := HV.out.row i r hi
            exact ⟨A', c', g1, g2.below HB3.out (Nat.le_refl _), g3⟩, HV.out.len, HV.out.blk⟩
          refine hv3.push (r := full (c + UInt8.ofNat t)) (A2 := A3) (c2 := c3) (fun b hb => hb) HS3.out (fun b o hn hA => ?_) hrn4 hf4 ho4 (fun b hb hlo => by omega)
          have := HL3.out b o hn hA
          exact ⟨by omega, fun hq => by have := HV.out.rn.lt hq; omega⟩)
        have HB4 := Lib.hid (show Below w.heap.size w w4 from (HB.out.trans (HB3.out.mono HB.out.size)).trans (hf4.below (by omega) (fun b hb => HV.out.blk b hb)))
        clear hrn4 hf4 ho4 hrem hz3 hz0
        go_wp2_with fail
        go_roundw
        case rel => exact ⟨t + 1, A4, c4, by omega, by go_num, rfl, NG4.out, HB4.out⟩
        case measure => simp [intOf]; omega
    · obtain rfl : t = q := by omega
      have hti : ¬ (t : Int) < 20 := by omega
      have HN := Lib.hid hg.ns
      clear hg
      go_wp2_with fail
      go_ret
      exact ⟨A1, c1, rfl, by have h := HN.out; rw [hqn] at h; exact h, HB.out⟩
theorem rows10_lo (c : UInt8) (n : Int) (h1 : -9223372036854775808 ≤ n) (h2 : n < 9223372036854775808) (h20 : ¬ (20 : Int) < n) (w : World) : Calls Try.prog 20 #[.int .u8 (c.toNat : Int), .int .i64 n] w (RetNs cells (rowsL c (rowsQ n)) w) := by
  unfold RetNs
  rw [rowsL_len]
  obtain ⟨q, hq⟩ : ∃ q, q = rowsQ n := ⟨_, rfl⟩
  rw [← hq]
  have hqn : q = n.toNat := by rw [hq, rowsQ]; first | rw [if_pos h20] | rw [if_neg h20]
  have hq20 : q ≤ 20 := by omega
  clear hq
  obtain ⟨i0, hi0, hz0, hz1, hz2⟩ := info_parts info_bs10
  have Hi := Lib.hid hi0
  have Hz0 := Lib.hid hz0
  have Hz1 := Lib.hid hz1
  have Hz2 := Lib.hid hz2
  clear hi0 hz0 hz1 hz2
  go_enter Try.func20, Try.ntmps20
  go_wp2_with fail
  go_loopw [5, 6] (fun v i wr => ∃ (t : Nat) (A' : Option Addr) (c' : Nat), t ≤ q ∧ i = .int .i64 (t : Int) ∧ v = .slice A' t c' ∧ Ng cells 40 wr (fun b => w.heap.size ≤ b) A' t c' (rowsL c t) ∧ Below w.heap.size w wr) (fun _ i _ => q - (intOf i).toNat)
  case atStart => exact ⟨0, none, 0, by omega, rfl, rfl, Ng.nil _ _, Below.refl _ _⟩
  case round =>
    obtain ⟨t, A1, c1, ht, rfl, rfl, hg, hB⟩ := hrel
    have HB := Lib.hid hB
    clear hB
    by_cases hlt : t < q
    · have hti : (t : Int) < n := by omega
      have hrem := tmod5 t
      obtain ⟨r, hr⟩ : ∃ r, r = t % 5 := ⟨_, rfl⟩
      rw [← hr] at hrem
      have hnx := rowsL_next c t
      rw [← hr] at hnx
      clear hr
      obtain ⟨vs, hv⟩ := hg.vs
      have HV := Lib.hid hv
      clear hg hv
      by_cases h5 : r = 4
      · subst h5
        rw [if_pos rfl] at hnx
        have HNX := Lib.hid hnx
        have RN := Lib.hid HV.out.rn
        clear hnx
        go_wp2_with (at_builtin; refine wpList_append_made (w := wr) (T := 40) (v := .slice none 0 0) rfl (.tmp 16) (.tmp 17) 38 38 rfl i0 (.slice none 0 0) 24 Try.underlying38 Try.underlying38 Hi.out Hz0.out Hz1.out Hz2.out rfl (by decide) rfl RN.out rfl rfl (by omega) ?pd)
        intro A4 c4 w4 hrn4 hf4 ho4
        have NG4 := Lib.hid (show Ng cells 40 w4 (fun b => w.heap.size ≤ b) A4 (t + 1) c4 (rowsL c (t + 1)) by
          rw [HNX.out]
          exact HV.out.push (r := []) (A2 := none) (c2 := 0) (fun b hb => hb) (Sl.nil wr 1 0 (by decide)) (fun b o hn hA => by cases hA) hrn4 hf4 ho4 (fun b hb hlo => by have := HB.out.size; omega))
        have HB4 := Lib.hid (show Below w.heap.size w w4 from HB.out.trans (hf4.below HB.out.size (fun b hb => HV.out.blk b hb)))
        clear hrn4 hf4 ho4 hrem
        go_wp2_with fail
        go_roundw
        case rel => exact ⟨t + 1, A4, c4, by omega, by go_num, rfl, NG4.out, HB4.out⟩
        case measure => simp [intOf]; omega
      · rw [if_neg h5] at hnx
        have h5i : ¬ (r : Int) = 4 := by omega
        have HNX := Lib.hid hnx
        clear hnx
        go_wp2_with fail
        refine (full10 _ (c + UInt8.ofNat t) ?_ wr).mono ?_
        · rw [← byte_next c t (by omega)]
          simp only [IntKind.wrap_u8] <;> omega
        rintro e w3 ⟨A3, c3, rfl, hs3, hb3, hl3⟩
        have RN3 := Lib.hid (HV.out.rn.later hb3)
        have HS3 := Lib.hid hs3
        have HB3 := Lib.hid hb3
        have HL3 := Lib.hid hl3
        clear hs3 hb3 hl3
        go_wp2_with (at_builtin; refine wpList_append_made (w := w3) (T := 40) (v := .slice A3 64 c3) rfl (.tmp 19) (.tmp 25) 38 38 rfl i0 (.slice none 0 0) 24 Try.underlying38 Try.underlying38 Hi.out Hz0.out Hz1.out Hz2.out rfl (by decide) rfl RN3.out rfl rfl (by omega) ?pe)
        intro A4 c4 w4 hrn4 hf4 ho4
        have hz3 := HB3.out.size
        have hz0 := HB.out.size
        have NG4 := Lib.hid (show Ng cells 40 w4 (fun b => w.heap.size ≤ b) A4 (t + 1) c4 (rowsL c (t + 1)) by
          rw [HNX.out]
          have hv3 : Ngv cells 40 w3 (fun b => w.heap.size ≤ b) A1 t c1 (rowsL c t) vs := ⟨RN3.out, fun i r hi => by
            obtain ⟨A', c', g1, g2, g3⟩ := HV.out.row i r hi
            exact ⟨A', c', g1, g2.below HB3.out (Nat.le_refl _), g3⟩, HV.out.len, HV.out.blk⟩
          refine hv3.push (r := full (c + UInt8.ofNat t)) (A2 := A3) (c2 := c3) (fun b hb => hb) HS3.out (fun b o hn hA => ?_) hrn4 hf4 ho4 (fun b hb hlo => by omega)
          have := HL3.out b o hn hA
          exact ⟨by omega, fun hq => by have := HV.out.rn.lt hq; omega⟩)
        have HB4 := Lib.hid (show Below w.heap.size w w4 from (HB.out.trans (HB3.out.mono HB.out.size)).trans (hf4.below (by omega) (fun b hb => HV.out.blk b hb)))
        clear hrn4 hf4 ho4 hrem hz3 hz0
        go_wp2_with fail
        go_roundw
        case rel => exact ⟨t + 1, A4, c4, by omega, by go_num, rfl, NG4.out, HB4.out⟩
        case measure => simp [intOf]; omega
    · obtain rfl : t = q := by omega
      have hti : ¬ (t : Int) < n := by omega
      have HN := Lib.hid hg.ns
      clear hg
      go_wp2_with fail
      go_ret
      exact ⟨A1, c1, rfl, by have h := HN.out; rw [hqn] at h; exact h, HB.out⟩
theorem rows10_any (c : UInt8) (n : Int) (h1 : -9223372036854775808 ≤ n) (h2 : n < 9223372036854775808) (w : World) : Calls Try.prog 20 #[.int .u8 (c.toNat : Int), .int .i64 n] w (RetNs cells (rowsL c (rowsQ n)) w) := by
  by_cases h : (20 : Int) < n
  · exact rows10_hi c n h1 h2 h w
  · exact rows10_lo c n h1 h2 h w
end Go.Proofs.Ytjjoeaneaibklaa
