/-
  Contracts of package bitmap's Has and next. Condition: the table reads as the row lists it ('Tz').
-/
import Derived.Test.YthkflghekgbgcaaDoorEbb
import Derived.Test.YthkflghekgbgcaaDoorIa
namespace Go.Proofs.YthkflghekgbgcaaDoor
open Go.RowKit Go.Proofs
set_option linter.unusedVariables false

theorem quo64 {i : Int} (h0 : 0 ≤ i) : i.tdiv 64 = ((i.toNat / 64 : Nat) : Int) := by
  rw [Int.tdiv_eq_ediv_of_nonneg h0]
  omega
theorem rem64 {i : Int} (h0 : 0 ≤ i) : i.tmod 64 = ((i.toNat % 64 : Nat) : Int) := by
  rw [Int.tmod_eq_emod_of_nonneg h0]
  omega
theorem bit_and {x s : Nat} (hx : x < 18446744073709551616) : (bits .and .u64 (((x / 2 ^ s : Nat)) : Int) 1 == 1) = x.testBit s := by
  have h1 : x / 2 ^ s < 18446744073709551616 := Nat.lt_of_le_of_lt (Nat.div_le_self _ _) hx
  have := bits_and_u64_nat (x / 2 ^ s) 1 h1 (by omega)
  rw [show ((1 : Nat) : Int) = 1 from rfl] at this
  rw [this, Nat.and_one_is_mod, Nat.testBit_eq_decide_div_mod_eq]
  rcases Nat.mod_two_eq_zero_or_one (x / 2 ^ s) with h | h <;> simp [h]

set_option maxRecDepth 20000 in
set_option maxHeartbeats 800000 in
theorem has_any (v : Value) (n : Nat) (f : Nat → Bool) (i : Int) (w : World) (h : Mp w v n f) :
    Calls Tryd.prog 12 #[v, .int .i64 i] w fun e w' => e = .returned (.bool (inB n i && f i.toNat)) ∧ w' = w := by
  have hh := mwithin_any v n f i w h
  have htop := h.top
  by_cases hi : inB n i = true
  · rw [hi, Bool.true_and]
    rw [hi] at hh
    have hi' : 0 ≤ i ∧ i < (n : Int) := by simpa [inB] using hi
    rcases h.is with ⟨_, rfl⟩ | ⟨M, A, q, c, ws, rfl, h1, h2, h3, h4⟩
    · omega
    obtain ⟨k, rfl⟩ : ∃ k : Nat, i = (k : Int) := ⟨i.toNat, by omega⟩
    have hk : k < n := by omega
    have hq : ws.length = q := by have := h3.len; rw [wcells_length] at this; omega
    have hkq : k / 64 < q := by have := h4.room; omega
    obtain ⟨b, o, rfl, hc⟩ := h3.at_ hkq
    have hcell := hc (k / 64) _ (wcells_get ws (k / 64) (by omega))
    have hx := h4.lt (k / 64)
    have hb := h4.bit k hk
    rw [Int.toNat_natCast, ← hb, bitW]
    obtain ⟨x, hxe⟩ : ∃ x, x = ws.getD (k / 64) 0 := ⟨_, rfl⟩
    rw [← hxe] at hcell hx ⊢
    have hki : (k : Int) / 64 < (q : Int) := by omega
    have hk0 : 0 ≤ (k : Int) / 64 := by omega
    have hkn : ((k : Int) / 64).toNat = k / 64 := by omega
    have hkm : 0 ≤ (k : Int) % 64 := by omega
    have hkr : min ((k : Int) % 64).toNat 64 = k % 64 := by omega
    have hand := bit_and (s := k % 64) hx
    have hsh : (x : Int) / 2 ^ (k % 64) = ((x / 2 ^ (k % 64) : Nat) : Int) := by simp
    rw [← hsh] at hand
    have Hand := Lib.hid hand
    clear h h3 h4 hc hb hxe hq hi hkq hand hsh
    go_enter Tryd.func12, Tryd.ntmps12
    go_wp2_with fail
    refine hh.mono ?_; clear hh; rintro e w1 ⟨rfl, rfl⟩
    go_wp2_with fail
    go_ret
    exact ⟨congrArg (fun b => Ending.returned (.bool b)) Hand.out, rfl⟩
  · have hi2 : inB n i = false := by simpa using hi
    rw [hi2] at hh ⊢
    clear h hi hi2
    go_enter Tryd.func12, Tryd.ntmps12
    go_wp2_with fail
    refine hh.mono ?_; clear hh; rintro e w1 ⟨rfl, rfl⟩
    go_wp2_with fail
    go_ret
    exact ⟨rfl, rfl⟩

theorem tz64_at (z : Int) (x : Nat) (hz : z = (x : Int)) (hx : x < 18446744073709551616) (hx0 : x ≠ 0) (w : World) (hN : Tz w) :
    Calls Tryd.prog 39 #[.int .u64 z] w fun e w' => e = .returned (.int .i64 ((Lib.ctz 64 x : Nat) : Int)) ∧ w' = w := by
  subst hz
  exact tz64_any x hx hx0 w hN
/-- What is known while the words are gone through. -/
structure Nw (n : Nat) (f : Nat → Bool) (a : Nat) (t : Bool) (r : Nat) : Prop where
  le : a ≤ r
  top : r ≤ a ∨ r ≤ 65600
  no : ∀ i, a ≤ i → i < r → i < n → f i = !t
/-- A number past the end, or a place: where a search stands. -/
structure Nq (n : Nat) (f : Nat → Bool) (a : Nat) (t : Bool) (r : Nat) : Prop where
  nx : Nxp n f a t r
  top : r ≤ a ∨ r ≤ 65600
theorem Nw.yes {n a r : Nat} {f : Nat → Bool} {t : Bool} {ws : List Nat} (h : Nw n f a t r) (hw : Wds n f ws) (hr : r < n) (hn : n ≤ 65536) {y : Nat} (hy : y = pickW t (ws.getD (r / 64) 0) / 2 ^ (r % 64)) (h0 : y ≠ 0) : Nq n f a t (r + Lib.ctz 64 y) := by
  obtain ⟨h1, h2, h3⟩ := word_yes (hw.lt (r / 64)) t hy h0
  have hle := h.le
  refine ⟨⟨by omega, fun i h4 h5 h6 => ?_, fun h6 => ?_⟩, .inr (by omega)⟩
  · rcases Nat.lt_or_ge i r with h7 | h7
    · exact h.no i h4 h7 h6
    · rw [← hw.bit i h6, bitW, show i / 64 = r / 64 by omega]
      exact h3 _ (by omega) (by omega)
  · rw [← hw.bit _ h6, bitW, show (r + Lib.ctz 64 y) / 64 = r / 64 by omega, show (r + Lib.ctz 64 y) % 64 = r % 64 + Lib.ctz 64 y by omega]
    exact h2
theorem Nw.next {n a r : Nat} {f : Nat → Bool} {t : Bool} {ws : List Nat} (h : Nw n f a t r) (hw : Wds n f ws) (hr : r < n) (hn : n ≤ 65536) (h0 : pickW t (ws.getD (r / 64) 0) / 2 ^ (r % 64) = 0) : Nw n f a t (r + (64 - r % 64)) := by
  have h3 := word_no (hw.lt (r / 64)) t h0
  have hle := h.le
  refine ⟨by omega, .inr (by omega), fun i h4 h5 h6 => ?_⟩
  rcases Nat.lt_or_ge i r with h7 | h7
  · exact h.no i h4 h7 h6
  · rw [← hw.bit i h6, bitW, show i / 64 = r / 64 by omega]
    exact h3 _ (by omega) (by omega)
theorem Nw.end_ {n a r : Nat} {f : Nat → Bool} {t : Bool} (h : Nw n f a t r) (hr : n ≤ r) : Nq n f a t r := ⟨⟨h.le, h.no, fun h1 => absurd h1 (by omega)⟩, h.top⟩

theorem xor_max {x : Nat} (hx : x < 18446744073709551616) : bits .xor .u64 (if IntKind.u64.signed = true then -1 else IntKind.u64.max) (x : Int) = ((pickW false x : Nat) : Int) := by
  have e : (if IntKind.u64.signed = true then -1 else IntKind.u64.max) = ((18446744073709551615 : Nat) : Int) := by decide
  have h1 : (BitVec.ofInt 64 ((18446744073709551615 : Nat) : Int)) = ~~~ 0#64 := by decide
  have h2 : (BitVec.ofInt 64 (x : Int)).toNat = x := by rw [BitVec.ofInt_natCast, BitVec.toNat_ofNat]; exact Nat.mod_eq_of_lt (by omega)
  rw [e]
  show IntKind.u64.wrap ((BitVec.ofInt 64 ((18446744073709551615 : Nat) : Int) ^^^ BitVec.ofInt 64 (x : Int)).toNat : Int) = _
  have h3 : (BitVec.ofInt 64 ((18446744073709551615 : Nat) : Int) ^^^ BitVec.ofInt 64 (x : Int)) = ~~~ BitVec.ofInt 64 (x : Int) := by
    rw [h1, BitVec.not_zero, BitVec.allOnes_xor]
  rw [h3, BitVec.toNat_not, h2, IntKind.wrap_u64, pickW, if_neg (by simp)]
  omega

set_option maxRecDepth 20000 in
set_option maxHeartbeats 1600000 in
theorem next_any (v : Value) (n : Nat) (f : Nat → Bool) (a : Nat) (t : Bool) (w : World) (h : Mp w v n f) (hN : Tz w) (ha : a < 9223372036854775808) :
    Calls Tryd.prog 38 #[v, .int .i64 (a : Int), .bool t] w fun e w' => ∃ r : Nat, e = .returned (.int .i64 (r : Int)) ∧ Nq n f a t r ∧ w' = w := by
  have hl := mlen_any v n f w h
  have htop := h.top
  have H := Lib.hid h; clear h
  have HN := Lib.hid hN; clear hN
  cases t
  · go_enter Tryd.func38, Tryd.ntmps38
    go_wp2_with fail
    go_loopw [1, 7] (fun i _ wr => ∃ r : Nat, i = .int .i64 (r : Int) ∧ Nw n f a false r ∧ wr = w) (fun i _ _ => n - (intOf i).toNat)
    case atStart => exact ⟨a, rfl, ⟨Nat.le_refl _, .inl (Nat.le_refl _), fun i h1 h2 => absurd h2 (by omega)⟩, rfl⟩
    case round =>
      obtain ⟨r, rfl, hr, rfl⟩ := hrel
      have R := Lib.hid hr; clear hr
      have hrt := R.out.top
      have hnr : (n : Int) ≤ 65536 := by omega
      by_cases hlt : r < n
      · rcases H.out.is with ⟨_, h0⟩ | ⟨M, A, q, c, ws, rfl, h1, h2, h3, h4⟩
        · omega
        have hq : ws.length = q := by have := h3.len; rw [wcells_length] at this; omega
        have hkq : r / 64 < q := by have := h4.room; omega
        obtain ⟨b, o, rfl, hc⟩ := h3.at_ hkq
        have hcell := hc (r / 64) _ (wcells_get ws (r / 64) (by omega))
        have hx := h4.lt (r / 64)
        obtain ⟨x, hxe⟩ : ∃ x, x = ws.getD (r / 64) 0 := ⟨_, rfl⟩
        rw [← hxe] at hcell hx
        have hki : (r : Int) / 64 < (q : Int) := by omega
        have hk0 : 0 ≤ (r : Int) / 64 := by omega
        have hkn : ((r : Int) / 64).toNat = r / 64 := by omega
        have hkm : 0 ≤ (r : Int) % 64 := by omega
        have hkr : min ((r : Int) % 64).toNat 64 = r % 64 := by omega
        have hpl := pickW_lt hx false
        have hcx := xor_max hx
        obtain ⟨x2, hx2⟩ : ∃ x2, x2 = pickW false x := ⟨_, rfl⟩
        rw [← hx2] at hcx
        have hxp : x2 = pickW false x := hx2
        rw [← hxp] at hpl
        obtain ⟨y, hy⟩ : ∃ y, y = x2 / 2 ^ (r % 64) := ⟨_, rfl⟩
        have hyi : (x2 : Int) / 2 ^ (r % 64) = (y : Int) := by rw [hy]; simp
        have hyl : y < 18446744073709551616 := by rw [hy]; exact Nat.lt_of_le_of_lt (Nat.div_le_self _ _) hpl
        have hye : y = pickW false (ws.getD (r / 64) 0) / 2 ^ (r % 64) := by rw [hy, hxp, hxe]
        have Hw := Lib.hid h4
        have Hye := Lib.hid hye
        have Hyl := Lib.hid hyl
        clear h3 h4 hc hxe hq hkq hrt hxp hy hye hpl hyl hx2 hx
        by_cases hz : y = 0
        · have hnx := R.out.next Hw.out hlt htop (by rw [← Hye.out]; exact hz)
          have Hnx := Lib.hid hnx
          rw [hz] at hyi
          clear hz hnx
          go_wp2_with fail
          refine hl.mono ?_; rintro e w1 ⟨rfl, hw1⟩; subst hw1
          go_wp2_with fail
          go_roundw
          case rel => exact ⟨_, by first | rfl | (congr 1; omega), Hnx.out, trivial⟩
          case measure => simp [intOf]; omega
        · have hzi : ((y : Int) != 0) = true := by simp; omega
          have hyy := R.out.yes Hw.out hlt htop Hye.out hz
          have hkl : (r : Int) + (Lib.ctz 64 y : Int) < 9223372036854775808 := by have := hyy.top; omega
          have Hyy := Lib.hid hyy
          have Hz := Lib.hid hz
          obtain ⟨k, hk⟩ : ∃ k, k = Lib.ctz 64 y := ⟨_, rfl⟩
          rw [← hk] at hkl Hyy
          have Hk := Lib.hid hk
          clear hz hyy hk
          go_wp2_with fail
          refine hl.mono ?_; rintro e w1 ⟨rfl, hw1⟩; subst hw1
          go_wp2_with fail
          refine (tz64_at _ y rfl Hyl.out Hz.out _ HN.out).mono ?_; rintro e w2 ⟨rfl, hw2⟩; subst hw2
          rw [← Hk.out]
          go_wp2_with fail
          go_ret
          exact ⟨r + k, by first | rfl | simp, Hyy.out, rfl⟩
      · have hni : ¬ (r : Int) < (n : Int) := by omega
        have hnd := R.out.end_ (by omega)
        have Hnd := Lib.hid hnd
        clear hnd
        go_wp2_with fail
        refine hl.mono ?_; rintro e w1 ⟨rfl, hw1⟩; subst hw1
        go_wp2_with fail
        go_ret
        exact ⟨r, rfl, Hnd.out, rfl⟩
  · go_enter Tryd.func38, Tryd.ntmps38
    go_wp2_with fail
    go_loopw [1, 7] (fun i _ wr => ∃ r : Nat, i = .int .i64 (r : Int) ∧ Nw n f a true r ∧ wr = w) (fun i _ _ => n - (intOf i).toNat)
    case atStart => exact ⟨a, rfl, ⟨Nat.le_refl _, .inl (Nat.le_refl _), fun i h1 h2 => absurd h2 (by omega)⟩, rfl⟩
    case round =>
      obtain ⟨r, rfl, hr, rfl⟩ := hrel
      have R := Lib.hid hr; clear hr
      have hrt := R.out.top
      have hnr : (n : Int) ≤ 65536 := by omega
      by_cases hlt : r < n
      · rcases H.out.is with ⟨_, h0⟩ | ⟨M, A, q, c, ws, rfl, h1, h2, h3, h4⟩
        · omega
        have hq : ws.length = q := by have := h3.len; rw [wcells_length] at this; omega
        have hkq : r / 64 < q := by have := h4.room; omega
        obtain ⟨b, o, rfl, hc⟩ := h3.at_ hkq
        have hcell := hc (r / 64) _ (wcells_get ws (r / 64) (by omega))
        have hx := h4.lt (r / 64)
        obtain ⟨x, hxe⟩ : ∃ x, x = ws.getD (r / 64) 0 := ⟨_, rfl⟩
        rw [← hxe] at hcell hx
        have hki : (r : Int) / 64 < (q : Int) := by omega
        have hk0 : 0 ≤ (r : Int) / 64 := by omega
        have hkn : ((r : Int) / 64).toNat = r / 64 := by omega
        have hkm : 0 ≤ (r : Int) % 64 := by omega
        have hkr : min ((r : Int) % 64).toNat 64 = r % 64 := by omega
        have hpl := pickW_lt hx true
        have hxp : x = pickW true x := by rw [pickW, if_pos rfl]
        rw [← hxp] at hpl
        obtain ⟨y, hy⟩ : ∃ y, y = x / 2 ^ (r % 64) := ⟨_, rfl⟩
        have hyi : (x : Int) / 2 ^ (r % 64) = (y : Int) := by rw [hy]; simp
        have hyl : y < 18446744073709551616 := by rw [hy]; exact Nat.lt_of_le_of_lt (Nat.div_le_self _ _) hpl
        have hye : y = pickW true (ws.getD (r / 64) 0) / 2 ^ (r % 64) := by rw [hy, hxp, hxe]
        have Hw := Lib.hid h4
        have Hye := Lib.hid hye
        have Hyl := Lib.hid hyl
        clear h3 h4 hc hxe hq hkq hrt hxp hy hye hpl hyl
        by_cases hz : y = 0
        · have hnx := R.out.next Hw.out hlt htop (by rw [← Hye.out]; exact hz)
          have Hnx := Lib.hid hnx
          rw [hz] at hyi
          clear hz hnx
          go_wp2_with fail
          refine hl.mono ?_; rintro e w1 ⟨rfl, hw1⟩; subst hw1
          go_wp2_with fail
          go_roundw
          case rel => exact ⟨_, by first | rfl | (congr 1; omega), Hnx.out, trivial⟩
          case measure => simp [intOf]; omega
        · have hzi : ((y : Int) != 0) = true := by simp; omega
          have hyy := R.out.yes Hw.out hlt htop Hye.out hz
          have hkl : (r : Int) + (Lib.ctz 64 y : Int) < 9223372036854775808 := by have := hyy.top; omega
          have Hyy := Lib.hid hyy
          have Hz := Lib.hid hz
          obtain ⟨k, hk⟩ : ∃ k, k = Lib.ctz 64 y := ⟨_, rfl⟩
          rw [← hk] at hkl Hyy
          have Hk := Lib.hid hk
          clear hz hyy hk
          go_wp2_with fail
          refine hl.mono ?_; rintro e w1 ⟨rfl, hw1⟩; subst hw1
          go_wp2_with fail
          refine (tz64_at _ y rfl Hyl.out Hz.out _ HN.out).mono ?_; rintro e w2 ⟨rfl, hw2⟩; subst hw2
          rw [← Hk.out]
          go_wp2_with fail
          go_ret
          exact ⟨r + k, by first | rfl | simp, Hyy.out, rfl⟩
      · have hni : ¬ (r : Int) < (n : Int) := by omega
        have hnd := R.out.end_ (by omega)
        have Hnd := Lib.hid hnd
        clear hnd
        go_wp2_with fail
        refine hl.mono ?_; rintro e w1 ⟨rfl, hw1⟩; subst hw1
        go_wp2_with fail
        go_ret
        exact ⟨r, rfl, Hnd.out, rfl⟩
end Go.Proofs.YthkflghekgbgcaaDoor
