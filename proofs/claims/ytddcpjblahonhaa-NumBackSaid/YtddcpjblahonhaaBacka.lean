/-
  Contracts of the statements' own helpers few and low; a slice of items that came in. No condition but that the slice reads as items.
-/
import Derived.Test.YtddcpjblahonhaaMathc
namespace Go.Proofs.Ytddcpjblahonhaa
open Go.RowKit
set_option linter.unusedVariables false

/-- The slice reads as items: a number, a number, a text each. -/
structure Items (w : World) (A : Option Addr) (n c : Nat) (its : List It) : Prop where
  len : its.length = n
  cap : n ≤ c
  top : c ≤ maxLen
  cell : ∀ (i : Nat) (x : It), its[i]? = some x → ∃ b o, A = some ⟨b, o, none⟩ ∧ w.cell? ⟨b, o + i * 3, none⟩ = some (.int .i64 x.wd) ∧ w.cell? ⟨b, o + i * 3 + 1, none⟩ = some (.int .u64 (x.num : Int)) ∧ w.cell? ⟨b, o + i * 3 + 2, none⟩ = some (.string x.txt)
  bd : ∀ (i : Nat) (x : It), its[i]? = some x → -2 ^ 63 ≤ x.wd ∧ x.wd < 2 ^ 63 ∧ x.num < 2 ^ 64 ∧ x.txt.size ≤ maxLen

theorem Items.below {w w' : World} {A : Option Addr} {n c : Nat} {its : List It} (h : Items w A n c its) (hb : Below w.heap.size w w') : Items w' A n c its :=
  ⟨h.len, h.cap, h.top, fun i x hx => by
    obtain ⟨b, o, e, h1, h2, h3⟩ := h.cell i x hx
    have hlt := World.block_lt_of_cell? w _ h1
    exact ⟨b, o, e, (hb.cell (p := ⟨b, o + i * 3, none⟩) hlt).trans h1, (hb.cell (p := ⟨b, o + i * 3 + 1, none⟩) hlt).trans h2, (hb.cell (p := ⟨b, o + i * 3 + 2, none⟩) hlt).trans h3⟩, h.bd⟩

theorem ret1_eq {k : IntKind} {a b : Int} (h : a = b) : Ending.returned (.int k a) = Ending.returned (.int k b) := by rw [h]

/-- The loop of few: what it answers. -/
theorem left_step (its : List It) (i : Nat) (x : It) (h : its[i]? = some x) : left its (i + 1) = left its i - min (x.txt.size : Int) 3000 := by
  simp only [left, h, Option.map_some, Option.getD_some]

set_option maxHeartbeats 400000 in
set_option maxRecDepth 20000 in
theorem few_any (A : Option Addr) (n c : Nat) (its : List It) (w : World) (h : Items w A n c its) :
    Calls Try.prog 24 #[.slice A n c] w fun e w' => e = .returned (.bool (decide (n ≤ 100) && decide (0 ≤ left its (min n 100)))) ∧ w = w' := by
  have hn : n ≤ maxLen := Nat.le_trans h.cap h.top
  unfold maxLen at hn
  have H := Lib.hid h; clear h
  go_enter Try.func24, Try.ntmps24
  go_wp2_with fail
  go_loop [3, 4] (fun v q => ∃ (i : Nat) (z : Int), i ≤ n ∧ i ≤ 100 ∧ q = .int .i64 (i : Int) ∧ v = .int .i64 z ∧ z = left its i) (fun _ q => 100 - (intOf q).toNat)
  case atStart => exact ⟨0, 2000, by omega, by omega, rfl, rfl, rfl⟩
  case round =>
    obtain ⟨i, z, hi, hi100, rfl, rfl, hz⟩ := hrel
    have hz1 : -300000 ≤ z := by have := left_ge its i; omega
    have hz2 : z ≤ 2000 := by have := left_le its i; omega
    have Hz := Lib.hid hz; clear hz
    by_cases hlt : i < n
    · by_cases hlt2 : i < 100
      · obtain ⟨x, hx⟩ : ∃ x, its[i]? = some x := ⟨_, List.getElem?_eq_getElem (by rw [H.out.len]; exact hlt)⟩
        obtain ⟨b, o, rfl, -, -, hc3⟩ := H.out.cell i x hx
        have hb := (H.out.bd i x hx).2.2.2
        unfold maxLen at hb
        have Hx := Lib.hid hx; clear hx
        have ht2 : (i : Int) < 100 := by omega
        go_wp2_with fail
        go_round
        case rel => exact ⟨i + 1, z - min (x.txt.size : Int) 3000, by omega, by omega, by go_num, congrArg (Value.int .i64) (by split <;> omega), by rw [left_step its i x Hx.out, Hz.out]⟩
        case measure => simp [intOf]; omega
      · have ht2 : ¬ (i : Int) < 100 := by omega
        have ht3 : ¬ (n : Int) ≤ 100 := by omega
        have Hd : Hid ((decide (n ≤ 100) && decide (0 ≤ left its (min n 100))) = false) := Lib.hid (by rw [decide_eq_false (by omega)]; rfl)
        go_wp2_with fail
        go_ret
        rw [Hd.out]
        exact ⟨rfl, rfl⟩
    · have ht3 : (n : Int) ≤ 100 := by omega
      have Hm : Hid ((decide (n ≤ 100) && decide (0 ≤ left its (min n 100))) = decide (0 ≤ z)) := Lib.hid (by
        rw [decide_eq_true (show n ≤ 100 by omega), show min n 100 = i from by omega, Hz.out]
        rfl)
      by_cases hz0 : 0 ≤ z
      · go_wp2_with fail
        go_ret
        rw [Hm.out, decide_eq_true hz0]
        exact ⟨rfl, rfl⟩
      · have Hf := Lib.hid (decide_eq_false hz0)
        go_wp2_with fail
        go_ret
        rw [Hm.out, Hf.out]
        exact ⟨rfl, rfl⟩

set_option maxHeartbeats 400000 in
theorem low_any (x : Nat) (m : Int) (w : World) (hx : x < 2 ^ 64) (h1 : 1 ≤ m) (h8 : m ≤ 8) :
    Calls Try.prog 25 #[.int .u64 (x : Int), .int .i64 m] w fun e w' => e = .returned (.int .u64 ((x % 256 ^ m.toNat : Nat) : Int)) ∧ w = w' := by
  obtain ⟨k, rfl⟩ := Int.eq_ofNat_of_zero_le (show 0 ≤ m by omega)
  rw [Int.toNat_natCast]
  by_cases h : k = 8
  · subst h
    have hm : x % 256 ^ 8 = x := Nat.mod_eq_of_lt hx
    rw [hm]
    clear hm
    go_enter Try.func25, Try.ntmps25
    go_wp2_with fail
    go_ret
    exact ⟨rfl, rfl⟩
  · have hk : k = 1 ∨ k = 2 ∨ k = 3 ∨ k = 4 ∨ k = 5 ∨ k = 6 ∨ k = 7 := by omega
    clear h
    rcases hk with rfl | rfl | rfl | rfl | rfl | rfl | rfl
    all_goals
      go_enter Try.func25, Try.ntmps25
      go_wp2_with fail
      go_ret
      exact ⟨ret1_eq (by omega), rfl⟩
end Go.Proofs.Ytddcpjblahonhaa
