/-
  Contracts of package bitmap's Len and within, and of math/bits.TrailingZeros64. Condition: the table reads as the row lists it ('Tz').
-/
import Derived.Test.YthkflghekgbgcaaDoorEba
import Derived.Test.YthkflghekgbgcaaDoorProg
import Derived.Deep.QuietTactic
import Derived.BigQuiet
import Derived.Lib.LaidTab
import Derived.Laws.Bits64b
import Derived.Laws.ShiftsVarLaws
namespace Go.Proofs.YthkflghekgbgcaaDoor
open Go.RowKit Go.Proofs
set_option linter.unusedVariables false

/-- The table by which the lowest bit is found. -/
def dbt : List Int := [0, 1, 56, 2, 57, 49, 28, 3, 61, 58, 42, 50, 38, 29, 17, 4, 62, 47, 59, 36, 45, 43, 51, 22, 53, 39, 33, 30, 24, 18, 12, 5, 63, 55, 48, 27, 60, 41, 37, 16, 46, 35, 44, 21, 52, 32, 23, 11, 54, 26, 40, 15, 34, 20, 31, 10, 25, 14, 19, 9, 13, 8, 7, 6]
theorem dbt_at : ∀ j, j < 64 → dbt.getD j 0 = ((Lib.deBruijn64tab.getD j 0 : Nat) : Int) := by decide +kernel
theorem gTz : Tryd.prog.globalNamed "math/bits.deBruijn64tab" = some 0 := by kernel_rfl
def Tz (w : World) : Prop := w.var? Tryd.prog "math/bits.deBruijn64tab" = some (dbt.map fun z => Value.int .u8 z).toArray
theorem Tz.cell {w : World} (h : Tz w) (i : Nat) (hi : i < 64) : w.cell? ⟨0, i, none⟩ = some (.int .u8 ((Lib.deBruijn64tab.getD i 0 : Nat) : Int)) := by
  have := Lib.TabIs.cell (k := .u8) h gTz i hi
  rwa [dbt_at i hi] at this
theorem Tz.lt {w : World} (h : Tz w) : 0 < w.heap.size := World.block_lt_of_cell? w _ (h.cell 0 (by decide))
theorem Tz.fr {S : Nat → Prop} {w w' : World} (h : Tz w) (hf : Fr S w w') (hS : ¬ S 0) : Tz w' := by
  have h0 := h.lt
  unfold Tz World.var? at *
  rw [gTz] at *
  simp only [Option.bind_some] at *
  rw [hf.block _ h0 hS]
  exact h
theorem Tz.keep {w w' : World} (h : Tz w) (hb : Below w.heap.size w w') : Tz w' := h.fr (Fr.of_below hb : Fr (fun _ => False) w w') (fun h => h)

set_option maxRecDepth 20000 in
set_option maxHeartbeats 1000000 in
theorem tz64_core (x k idx : Nat) (w : World) (hx0 : ((x : Int) == 0) = false)
    (key : IntKind.u64.wrap (bits BinOp.and IntKind.u64 (x : Int) (IntKind.u64.wrap (-(x : Int))) * 285870213051353865) / 288230376151711744 = (idx : Int))
    (hi : idx < 64) (hk : k < 64) (hcell : w.cell? ⟨0, idx, none⟩ = some (.int .u8 (k : Int))) :
    Calls Tryd.prog 39 #[.int .u64 (x : Int)] w fun e w' => e = .returned (.int .i64 (k : Int)) ∧ w' = w := by
  go_enter Tryd.func39, Tryd.ntmps39
  go_wp2_with (simp only [key])
  go_ret
  exact ⟨rfl, rfl⟩
theorem tz64_word (x a : Nat) (hx : x < 18446744073709551616) (hx0 : x ≠ 0) (hlow : x &&& (18446744073709551616 - x) = a) :
    IntKind.u64.wrap (bits BinOp.and IntKind.u64 (x : Int) (IntKind.u64.wrap (-(x : Int))) * 285870213051353865) / 288230376151711744 = ((a * 285870213051353865 % 18446744073709551616 / 288230376151711744 : Nat) : Int) := by
  have e1 : IntKind.u64.wrap (-(x : Int)) = ((18446744073709551616 - x : Nat) : Int) := by rw [IntKind.wrap_u64]; omega
  rw [e1, bits_and_u64_nat x _ hx (by omega), hlow, IntKind.wrap_u64]
  omega
/-- math/bits.TrailingZeros64, of any word but nought. -/
theorem tz64_any (x : Nat) (hx : x < 18446744073709551616) (hx0 : x ≠ 0) (w : World) (hN : Tz w) :
    Calls Tryd.prog 39 #[.int .u64 (x : Int)] w fun e w' => e = .returned (.int .i64 ((Lib.ctz 64 x : Nat) : Int)) ∧ w' = w := by
  obtain ⟨hlow, hk⟩ := Lib.lowest_bit 64 x hx0 hx
  obtain ⟨hi, htab⟩ := Lib.deBruijn64_at _ hk
  have hcell := hN.cell _ hi
  rw [htab] at hcell
  exact tz64_core x _ _ w (by simp; omega) (tz64_word x _ hx hx0 hlow) hi hk hcell

/-- Words as cells. -/
def wcells (ws : List Nat) : List Value := ws.map fun (x : Nat) => Value.int .u64 (x : Int)
theorem wcells_length (ws : List Nat) : (wcells ws).length = ws.length := by simp [wcells]
theorem wcells_get (ws : List Nat) (j : Nat) (h : j < ws.length) : (wcells ws)[j]? = some (.int .u64 ((ws.getD j 0 : Nat) : Int)) := by simp [wcells, h]
/-- Words of which the bits tell which of n places are taken. -/
structure Wds (n : Nat) (f : Nat → Bool) (ws : List Nat) : Prop where
  room : n ≤ ws.length * 64
  lt : ∀ j, ws.getD j 0 < 18446744073709551616
  bit : ∀ i, i < n → bitW ws i = f i
/-- A Map at block M with so many places, its words as told. -/
structure MpAt (w : World) (M n : Nat) (f : Nat → Bool) (A : Option Addr) (q c : Nat) (ws : List Nat) : Prop where
  num : w.cell? ⟨M, 1, none⟩ = some (.int .i64 (n : Int))
  row : w.cell? ⟨M, 2, none⟩ = some (.slice A q c)
  sl : Sl w 1 A q c (wcells ws)
  wds : Wds n f ws
/-- A Map that may be looked at: none at all, or any other, whoever made it. -/
structure Mp (w : World) (v : Value) (n : Nat) (f : Nat → Bool) : Prop where
  top : n ≤ 65536
  is : (v = .pointer none ∧ n = 0) ∨ ∃ (M : Nat) (A : Option Addr) (q c : Nat) (ws : List Nat), v = .pointer (some ⟨M, 0, none⟩) ∧ MpAt w M n f A q c ws
theorem Mp.keep {w w' : World} {v : Value} {n : Nat} {f : Nat → Bool} (h : Mp w v n f) (hb : Below w.heap.size w w') : Mp w' v n f := by
  refine ⟨h.top, h.is.imp id ?_⟩
  rintro ⟨M, A, q, c, ws, rfl, h1, h2, h3, h4⟩
  have hf : Fr (fun _ => False) w w' := Fr.of_below hb
  exact ⟨M, A, q, c, ws, rfl, hf.cell_some h1 (fun h => h), hf.cell_some h2 (fun h => h), h3.below hb (Nat.le_refl _), h4⟩
theorem Mp.nil (w : World) (f : Nat → Bool) : Mp w (.pointer none) 0 f := ⟨by decide, .inl ⟨rfl, rfl⟩⟩

set_option maxRecDepth 20000 in
theorem mlen_any (v : Value) (n : Nat) (f : Nat → Bool) (w : World) (h : Mp w v n f) :
    Calls Tryd.prog 23 #[v] w fun e w' => e = .returned (.int .i64 (n : Int)) ∧ w' = w := by
  rcases h.is with ⟨rfl, rfl⟩ | ⟨M, A, q, c, ws, rfl, h1, h2, h3, h4⟩
  · clear h
    go_enter Tryd.func23, Tryd.ntmps23
    go_wp2_with fail
    go_ret
    exact ⟨rfl, rfl⟩
  · clear h h2 h3 h4
    go_enter Tryd.func23, Tryd.ntmps23
    go_wp2_with fail
    go_ret
    exact ⟨rfl, rfl⟩
/-- Is it one of the places? -/
def inB (n : Nat) (i : Int) : Bool := decide (0 ≤ i) && decide (i < (n : Int))
set_option maxRecDepth 20000 in
theorem mwithin_any (v : Value) (n : Nat) (f : Nat → Bool) (i : Int) (w : World) (h : Mp w v n f) :
    Calls Tryd.prog 27 #[v, .int .i64 i] w fun e w' => e = .returned (.bool (inB n i)) ∧ w' = w := by
  have hh := mlen_any v n f w h
  clear h
  by_cases h0 : 0 ≤ i
  · by_cases h1 : i < (n : Int)
    · rw [show inB n i = true by simp [inB, h0, h1]]
      go_enter Tryd.func27, Tryd.ntmps27
      go_wp2_with fail
      refine hh.mono ?_; clear hh; rintro e w1 ⟨rfl, rfl⟩
      go_wp2_with fail
      go_ret
      exact ⟨by first | rfl | simp [h1], rfl⟩
    · rw [show inB n i = false by simp [inB, h0, h1]]
      go_enter Tryd.func27, Tryd.ntmps27
      go_wp2_with fail
      refine hh.mono ?_; clear hh; rintro e w1 ⟨rfl, rfl⟩
      go_wp2_with fail
      go_ret
      exact ⟨by first | rfl | (simp; omega), rfl⟩
  · rw [show inB n i = false by simp [inB, h0]]
    clear hh
    go_enter Tryd.func27, Tryd.ntmps27
    go_wp2_with fail
    go_ret
    exact ⟨by first | rfl | (simp; omega), rfl⟩
end Go.Proofs.YthkflghekgbgcaaDoor
