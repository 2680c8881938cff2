/-
  Places below a number, told by a test: lists of them, the first one, runs. Bits of words. No program. And what goes with it below the laws of layer 13. No condition but what each theorem says.
-/
import Derived.Test.YtokbhgbajdomnaaGreatDoorGa
import Derived.Lib.TrailingZeros
import Derived.Test.YtokbhgbajdomnaaGreatDoorProg
import Derived.Deep.QuietTactic
import Derived.BigQuiet
import Derived.Lib.LaidTab
import Derived.Laws.Bits64b
import Derived.Laws.ShiftsVarLaws
import Derived.Test.YtokbhgbajdomnaaGreatDoorIa
import Derived.Shelf.Abstract
import Derived.Deep.RegionHeld
import Derived.Laws.Tables
import Derived.Laws.EntriesVeiled
import Derived.RegionTactic
set_option linter.unusedVariables false
set_option maxRecDepth 20000
set_option maxHeartbeats 1600000
namespace Go.Proofs.YtokbhgbajdomnaaGreatDoor
section
open Go.RowKit
def plc (n a : Nat) (f : Nat → Bool) (t : Bool) : List Nat := (List.range' a (n - a)).filter fun i => f i == t
structure Nxp (n : Nat) (f : Nat → Bool) (a : Nat) (t : Bool) (r : Nat) : Prop where
 le : a ≤ r
 no : ∀ i, a ≤ i → i < r → i < n → f i = !t
 yes : r < n → f r = t
section
variable {n a r i : Nat} {f : Nat → Bool} {t : Bool}
theorem plc_mem : i ∈ plc n a f t ↔ a ≤ i ∧ i < n ∧ f i = t := by
 rw [plc, List.mem_filter, List.mem_range'_1]
 constructor
 ·rintro ⟨⟨h1, h2⟩, h3⟩
  exact ⟨h1, by omega, by simpa using h3⟩
 ·rintro ⟨h1, h2, h3⟩
  exact ⟨⟨h1, by omega⟩, by simpa using h3⟩
theorem plc_up : (plc n a f t).Pairwise (· < ·) := (List.pairwise_lt_range' (s := a) (n := n - a)).filter _
theorem Nxp.nil (h : Nxp n f a t r) (hr : n ≤ r) : plc n a f t = [] := by
 rw [plc, List.filter_eq_nil_iff]
 intro i hi
 rw [List.mem_range'_1] at hi
 rw [h.no i hi.1 (by omega) (by omega)]
 cases t <;> simp
theorem Nxp.cons (h : Nxp n f a t r) (hr : r < n) : plc n a f t = r :: plc n (r + 1) f t := by
 have hle := h.le
 have e : n - a = (r - a) + (n - (r + 1) + 1) := by omega
 have e2 : a + (r - a) = r := by omega
 have h0 : (List.range' a (r - a)).filter (fun i => f i == t) = [] := by
  rw [List.filter_eq_nil_iff]
  intro i hi
  rw [List.mem_range'_1] at hi
  rw [h.no i hi.1 (by omega) (by omega)]
  cases t <;> simp
 rw [plc, e, ← List.range'_append_1, List.filter_append, h0, List.nil_append, e2, List.range'_succ, List.filter_cons_of_pos (by rw [h.yes hr]; simp), plc]
theorem plc_len_le : (plc n a f t).length ≤ n := by
 rw [plc]
 refine Nat.le_trans (List.length_filter_le _ _) ?_
 rw [List.length_range']
 omega
theorem plc_step_yes (ha : a < n) (h : f a = t) : plc n a f t = a :: plc n (a + 1) f t := (Nxp.cons ⟨Nat.le_refl _, fun i h1 h2 _ => absurd h2 (by omega), fun _ => h⟩ ha)
theorem plc_step_no (ha : a < n) (h : f a = !t) : plc n a f t = plc n (a + 1) f t := by
 rw [plc, show n - a = n - (a + 1) + 1 by omega, List.range'_succ, List.filter_cons_of_neg (by rw [h]; cases t <;> simp), plc]
theorem plc_snoc (ha : a ≤ n) : plc (n + 1) a f t = plc n a f t ++ (if f n = t then [n] else []) := by
 rw [plc, show n + 1 - a = n - a + 1 by omega, List.range'_1_concat, List.filter_append, show a + (n - a) = n by omega, plc]
 congr 1
 by_cases h : f n = t
 ·rw [if_pos h, List.filter_cons_of_pos (by simpa using h), List.filter_nil]
 ·rw [if_neg h, List.filter_cons_of_neg (by simpa using h), List.filter_nil]
theorem plc_split {b : Nat} (h1 : a ≤ b) (h2 : b ≤ n) : plc n a f t = plc b a f t ++ plc n b f t := by
 rw [plc, show n - a = (b - a) + (n - b) by omega, ← List.range'_append_1, List.filter_append, show a + (b - a) = b by omega]
 rfl
theorem plc_congr {g : Nat → Bool} (h : ∀ i, a ≤ i → i < n → f i = g i) : plc n a f t = plc n a g t := by
 rw [plc, plc]
 apply List.filter_congr
 intro i hi
 rw [List.mem_range'_1] at hi
 rw [h i hi.1 (by omega)]
theorem plc_both : ∀ n, (plc n 0 f true).length + (plc n 0 f false).length = n
 | 0 => by simp [plc]
 | n + 1 => by
  have := plc_both n
  rw [plc_snoc (Nat.zero_le _), plc_snoc (Nat.zero_le _), List.length_append, List.length_append]
  cases h : f n <;> simp <;> omega
end
def goesP {α : Type} (F : α → Nat → α × Bool) : α → List Nat → α
 | v, [] => v
 | v, p :: l => if (F v p).2 then (F v p).1 else goesP F (F v p).1 l
def leastF (m : Nat) (k : List Nat) (p : Nat) : List Nat × Bool := (k ++ [p], decide (k.length + 1 = m))
theorem goes_least (m : Nat) (l : List Nat) : ∀ k : List Nat, k.length < m → goesP (leastF m) k l = k ++ l.take (m - k.length) := by
 induction l with
 | nil => intro k h; simp [goesP]
 | cons p l ih =>
  intro k h
  by_cases e : k.length + 1 = m
  ·rw [goesP, show (leastF m k p).2 = true by simp [leastF, e], if_pos rfl, show m - k.length = 0 + 1 by omega]
   simp [leastF]
  ·rw [goesP, show (leastF m k p).2 = false by simp [leastF, e], if_neg (by simp), show (leastF m k p).1 = k ++ [p] from rfl, ih _ (by simp; omega)]
   rw [show m - k.length = (m - (k ++ [p]).length) + 1 by simp; omega]
   simp
/-! Runs. -/
theorem up_ge {l : List Nat} (hl : l.Pairwise (· < ·)) : ∀ (k i : Nat), i + k < l.length → l.getD i 0 + k ≤ l.getD (i + k) 0
 | 0, i, _ => by simp
 | k + 1, i, h => by
  have := up_ge hl k i (by omega)
  have h2 := List.pairwise_iff_getElem.1 hl (i + k) (i + (k + 1)) (by omega) h (by omega)
  have e1 : l.getD (i + k) 0 = l[i + k] := by simp [List.getD_eq_getElem?_getD, show i + k < l.length by omega]
  have e2 : l.getD (i + (k + 1)) 0 = l[i + (k + 1)] := by rw [List.getD_eq_getElem?_getD, List.getElem?_eq_getElem h]; rfl
  rw [e1] at this
  rw [e2]
  omega
theorem up_mem {l : List Nat} {i : Nat} (h : i < l.length) : l.getD i 0 ∈ l := by
 rw [List.getD_eq_getElem?_getD, List.getElem?_eq_getElem h]
 exact List.getElem_mem h
theorem up_at {l : List Nat} {x : Nat} (h : x ∈ l) : ∃ i, i < l.length ∧ l.getD i 0 = x := by
 obtain ⟨i, hi, rfl⟩ := List.mem_iff_getElem.1 h
 exact ⟨i, hi, by rw [List.getD_eq_getElem?_getD, List.getElem?_eq_getElem hi]; rfl⟩
theorem up_lt {l : List Nat} (hl : l.Pairwise (· < ·)) {i j : Nat} (hj : j < l.length) (h : i < j) : l.getD i 0 < l.getD j 0 := by
 have := up_ge hl (j - i) i (by omega)
 rw [show i + (j - i) = j by omega] at this
 omega
/-! Bits of words of 64. -/
def bitW (ws : List Nat) (i : Nat) : Bool := (ws.getD (i / 64) 0).testBit (i % 64)
def pickT (t : Bool) (x : Nat) : Nat := if t then x else 18446744073709551615 - x
theorem pickT_bit {x : Nat} (hx : x < 18446744073709551616) (t : Bool) {j : Nat} (hj : j < 64) : (pickT t x).testBit j = (x.testBit j == t) := by
 cases t
 ·have := Nat.testBit_two_pow_sub_succ (n := 64) (x := x) (by omega) j
  rw [show (2 : Nat) ^ 64 - (x + 1) = 18446744073709551615 - x by omega] at this
  rw [pickT, if_neg (by simp), this]
  cases x.testBit j <;> simp [hj]
 ·simp [pickT]
theorem pickT_lt {x : Nat} (hx : x < 18446744073709551616) (t : Bool) : pickT t x < 18446744073709551616 := by
 cases t <;> simp [pickT] <;> omega
theorem word_no {x s : Nat} (hx : x < 18446744073709551616) (t : Bool) (h0 : pickT t x / 2 ^ s = 0) : ∀ j, s ≤ j → j < 64 → x.testBit j = !t := by
 intro j h1 h2
 have h := pickT_bit hx t h2
 have e : (pickT t x).testBit j = (pickT t x / 2 ^ s).testBit (j - s) := by rw [Nat.testBit_div_two_pow]; congr 1; omega
 rw [e, h0, Nat.zero_testBit] at h
 revert h
 cases t <;> cases x.testBit j <;> simp
theorem ctz_bits {y : Nat} (h0 : y ≠ 0) (hy : y < 18446744073709551616) : y.testBit (Lib.ctz 64 y) = true ∧ (∀ j, j < Lib.ctz 64 y → y.testBit j = false) ∧ Lib.ctz 64 y < 64 := by
 obtain ⟨m, e, hk⟩ := Lib.ctzFrom_spec 64 y (by omega) (by omega)
 have e2 : Lib.ctz 64 y = Lib.ctzFrom 64 y := by rw [Lib.ctz, if_neg h0]
 rw [e2]
 obtain ⟨k, hk'⟩ : ∃ k, k = Lib.ctzFrom 64 y := ⟨_, rfl⟩
 rw [← hk'] at e hk ⊢
 refine ⟨?_, fun j hj => ?_, hk⟩
 ·rw [e, Nat.testBit_two_pow_mul, Nat.sub_self]
  simp
 ·rw [e, Nat.testBit_two_pow_mul]
  simp
  omega
theorem word_yes {x s : Nat} (hx : x < 18446744073709551616) (t : Bool) {y : Nat} (hy : y = pickT t x / 2 ^ s) (h0 : y ≠ 0) :
  s + Lib.ctz 64 y < 64 ∧ x.testBit (s + Lib.ctz 64 y) = t ∧ ∀ j, s ≤ j → j < s + Lib.ctz 64 y → x.testBit j = !t := by
 have hy1 : y < 18446744073709551616 := by rw [hy]; exact Nat.lt_of_le_of_lt (Nat.div_le_self _ _) (pickT_lt hx t)
 obtain ⟨h1, h2, h3⟩ := ctz_bits h0 hy1
 obtain ⟨k, hk⟩ : ∃ k, k = Lib.ctz 64 y := ⟨_, rfl⟩
 rw [← hk] at h1 h2 h3 ⊢
 have sh : ∀ j, y.testBit j = (pickT t x).testBit (s + j) := by intro j; rw [hy, Nat.testBit_div_two_pow]; congr 1; omega
 rw [sh] at h1
 have hlt : s + k < 64 := by
  rcases Nat.lt_or_ge (s + k) 64 with h | h
  ·exact h
  ·rw [Nat.testBit_lt_two_pow (Nat.lt_of_lt_of_le (pickT_lt hx t) (Nat.le_trans (show 18446744073709551616 ≤ 2 ^ 64 by decide) (Nat.pow_le_pow_right (by omega) h)))] at h1
   cases h1
 refine ⟨hlt, ?_, fun j h4 h5 => ?_⟩
 ·rw [pickT_bit hx t hlt] at h1
  simpa using h1
 ·have := h2 (j - s) (by omega)
  rw [sh, show s + (j - s) = j by omega, pickT_bit hx t (by omega)] at this
  revert this
  cases t <;> cases x.testBit j <;> simp
theorem bitW_turn {ws : List Nat} {i x : Nat} (hi : i / 64 < ws.length) (hx : ws.getD (i / 64) 0 = x) (j : Nat) : bitW (ws.set (i / 64) (x ^^^ 2 ^ (i % 64))) j = if j = i then !bitW ws i else bitW ws j := by
 by_cases h : j / 64 = i / 64
 ·have e : (ws.set (i / 64) (x ^^^ 2 ^ (i % 64))).getD (j / 64) 0 = x ^^^ 2 ^ (i % 64) := by rw [h]; simp [hi]
  rw [bitW, e, Nat.testBit_xor, Nat.testBit_two_pow]
  by_cases h2 : j = i
  ·subst h2
   rw [if_pos rfl, bitW, hx]
   simp
  ·rw [if_neg h2, bitW, h, hx]
   have : ¬ i % 64 = j % 64 := by omega
   simp [this]
 ·have e : (ws.set (i / 64) (x ^^^ 2 ^ (i % 64))).getD (j / 64) 0 = ws.getD (j / 64) 0 := by
   simp only [List.getD_eq_getElem?_getD]
   rw [List.getElem?_set_ne (fun e => h e.symm)]
  rw [bitW, e, if_neg (by intro e2; exact h (by rw [e2])), bitW]
def putB (f : Nat → Bool) (i : Nat) (on : Bool) : Nat → Bool := fun j => if j = i then on else f j
end
section
open Go.RowKit Go.Proofs
def dbt : List Int := [0, 1, 56, 2, 57, 49, 28, 3, 61, 58, 42, 50, 38, 29, 17, 4, 62, 47, 59, 36, 45, 43, 51, 22, 53, 39, 33, 30, 24, 18, 12, 5, 63, 55, 48, 27, 60, 41, 37, 16, 46, 35, 44, 21, 52, 32, 23, 11, 54, 26, 40, 15, 34, 20, 31, 10, 25, 14, 19, 9, 13, 8, 7, 6]
theorem dbt_at : ∀ j, j < 64 → dbt.getD j 0 = ((Lib.deBruijn64tab.getD j 0 : Nat) : Int) := by decide +kernel
theorem gTz : Tryz.prog.globalNamed "math/bits.deBruijn64tab" = some 0 := by kernel_rfl
def Tz (w : World) : Prop := w.var? Tryz.prog "math/bits.deBruijn64tab" = some (dbt.map fun z => Value.int .u8 z).toArray
theorem Tz.cell {w : World} (h : Tz w) (i : Nat) (hi : i < 64) : w.cell? ⟨0, i, none⟩ = some (.int .u8 ((Lib.deBruijn64tab.getD i 0 : Nat) : Int)) := by
 have := Lib.TabIs.cell (k := .u8) h gTz i hi
 rwa [dbt_at i hi] at this
theorem Tz.lt {w : World} (h : Tz w) : 0 < w.heap.size := World.block_lt_of_cell? w _ (h.cell 0 (by decide))
theorem Tz.fr {S : Nat → Prop} {w w' : World} (h : Tz w) (hf : Fr S w w') (hS : ¬ S 0) : Tz w' := by
 have h0 := h.lt
 unfold Tz World.var? at *
 rw [gTz] at *
 simp only [Option.bind_some] at *
 rw [hf.block _ h0 hS]
 exact h
theorem Tz.keep {w w' : World} (h : Tz w) (hb : Below w.heap.size w w') : Tz w' := h.fr (Fr.of_below hb : Fr (fun _ => False) w w') (fun h => h)
theorem tz64_core (x k idx : Nat) (w : World) (hx0 : ((x : Int) == 0) = false)
  (key : IntKind.u64.wrap (bits BinOp.and IntKind.u64 (x : Int) (IntKind.u64.wrap (-(x : Int))) * 285870213051353865) / 288230376151711744 = (idx : Int))
  (hi : idx < 64) (hk : k < 64) (hcell : w.cell? ⟨0, idx, none⟩ = some (.int .u8 (k : Int))) :
  Calls Tryz.prog 176 #[.int .u64 (x : Int)] w fun e w' => e = .returned (.int .i64 (k : Int)) ∧ w' = w := by
 go_enter Tryz.func176, Tryz.ntmps176
 go_wp2_with (simp only [key])
 go_ret
 exact ⟨rfl, rfl⟩
theorem tz64_word (x a : Nat) (hx : x < 18446744073709551616) (hx0 : x ≠ 0) (hlow : x &&& (18446744073709551616 - x) = a) :
  IntKind.u64.wrap (bits BinOp.and IntKind.u64 (x : Int) (IntKind.u64.wrap (-(x : Int))) * 285870213051353865) / 288230376151711744 = ((a * 285870213051353865 % 18446744073709551616 / 288230376151711744 : Nat) : Int) := by
 have e1 : IntKind.u64.wrap (-(x : Int)) = ((18446744073709551616 - x : Nat) : Int) := by rw [IntKind.wrap_u64]; omega
 rw [e1, bits_and_u64_nat x _ hx (by omega), hlow, IntKind.wrap_u64]
 omega
theorem tz64_any (x : Nat) (hx : x < 18446744073709551616) (hx0 : x ≠ 0) (w : World) (hN : Tz w) :
  Calls Tryz.prog 176 #[.int .u64 (x : Int)] w fun e w' => e = .returned (.int .i64 ((Lib.ctz 64 x : Nat) : Int)) ∧ w' = w := by
 obtain ⟨hlow, hk⟩ := Lib.lowest_bit 64 x hx0 hx
 obtain ⟨hi, htab⟩ := Lib.deBruijn64_at _ hk
 have hcell := hN.cell _ hi
 rw [htab] at hcell
 exact tz64_core x _ _ w (by simp; omega) (tz64_word x _ hx hx0 hlow) hi hk hcell
def wcells (ws : List Nat) : List Value := ws.map fun (x : Nat) => Value.int .u64 (x : Int)
theorem wcells_length (ws : List Nat) : (wcells ws).length = ws.length := by simp [wcells]
theorem wcells_get (ws : List Nat) (j : Nat) (h : j < ws.length) : (wcells ws)[j]? = some (.int .u64 ((ws.getD j 0 : Nat) : Int)) := by simp [wcells, h]
structure Wds (n : Nat) (f : Nat → Bool) (ws : List Nat) : Prop where
 room : n ≤ ws.length * 64
 lt : ∀ j, ws.getD j 0 < 18446744073709551616
 bit : ∀ i, i < n → bitW ws i = f i
structure MpAt (w : World) (M n : Nat) (f : Nat → Bool) (A : Option Addr) (q c : Nat) (ws : List Nat) : Prop where
 num : w.cell? ⟨M, 1, none⟩ = some (.int .i64 (n : Int))
 row : w.cell? ⟨M, 2, none⟩ = some (.slice A q c)
 sl : Sl w 1 A q c (wcells ws)
 wds : Wds n f ws
structure Mp (w : World) (v : Value) (n : Nat) (f : Nat → Bool) : Prop where
 top : n ≤ 65536
 is : (v = .pointer none ∧ n = 0) ∨ ∃ (M : Nat) (A : Option Addr) (q c : Nat) (ws : List Nat), v = .pointer (some ⟨M, 0, none⟩) ∧ MpAt w M n f A q c ws
theorem Mp.keep {w w' : World} {v : Value} {n : Nat} {f : Nat → Bool} (h : Mp w v n f) (hb : Below w.heap.size w w') : Mp w' v n f := by
 refine ⟨h.top, h.is.imp id ?_⟩
 rintro ⟨M, A, q, c, ws, rfl, h1, h2, h3, h4⟩
 have hf : Fr (fun _ => False) w w' := Fr.of_below hb
 exact ⟨M, A, q, c, ws, rfl, hf.cell_some h1 (fun h => h), hf.cell_some h2 (fun h => h), h3.below hb (Nat.le_refl _), h4⟩
theorem mlen_any (v : Value) (n : Nat) (f : Nat → Bool) (w : World) (h : Mp w v n f) :
  Calls Tryz.prog 75 #[v] w fun e w' => e = .returned (.int .i64 (n : Int)) ∧ w' = w := by
 rcases h.is with ⟨rfl, rfl⟩ | ⟨M, A, q, c, ws, rfl, h1, h2, h3, h4⟩
 ·clear h
  go_enter Tryz.func75, Tryz.ntmps75
  go_wp2_with fail
  go_ret
  exact ⟨rfl, rfl⟩
 ·clear h h2 h3 h4
  go_enter Tryz.func75, Tryz.ntmps75
  go_wp2_with fail
  go_ret
  exact ⟨rfl, rfl⟩
def inB (n : Nat) (i : Int) : Bool := decide (0 ≤ i) && decide (i < (n : Int))
theorem mwithin_any (v : Value) (n : Nat) (f : Nat → Bool) (i : Int) (w : World) (h : Mp w v n f) :
  Calls Tryz.prog 103 #[v, .int .i64 i] w fun e w' => e = .returned (.bool (inB n i)) ∧ w' = w := by
 have hh := mlen_any v n f w h
 clear h
 by_cases h0 : 0 ≤ i
 ·by_cases h1 : i < (n : Int)
  ·rw [show inB n i = true by simp [inB, h0, h1]]
   go_enter Tryz.func103, Tryz.ntmps103
   go_wp2_with fail
   refine hh.mono ?_; clear hh; rintro e w1 ⟨rfl, rfl⟩
   go_wp2_with fail
   go_ret
   exact ⟨by first | rfl | simp [h1], rfl⟩
  ·rw [show inB n i = false by simp [inB, h0, h1]]
   go_enter Tryz.func103, Tryz.ntmps103
   go_wp2_with fail
   refine hh.mono ?_; clear hh; rintro e w1 ⟨rfl, rfl⟩
   go_wp2_with fail
   go_ret
   exact ⟨by first | rfl | (simp; omega), rfl⟩
 ·rw [show inB n i = false by simp [inB, h0]]
  clear hh
  go_enter Tryz.func103, Tryz.ntmps103
  go_wp2_with fail
  go_ret
  exact ⟨by first | rfl | (simp; omega), rfl⟩
end
section
open Go.RowKit Go.Proofs
theorem bit_and {x s : Nat} (hx : x < 18446744073709551616) : (bits .and .u64 (((x / 2 ^ s : Nat)) : Int) 1 == 1) = x.testBit s := by
 have h1 : x / 2 ^ s < 18446744073709551616 := Nat.lt_of_le_of_lt (Nat.div_le_self _ _) hx
 have := bits_and_u64_nat (x / 2 ^ s) 1 h1 (by omega)
 rw [show ((1 : Nat) : Int) = 1 from rfl] at this
 rw [this, Nat.and_one_is_mod, Nat.testBit_eq_decide_div_mod_eq]
 rcases Nat.mod_two_eq_zero_or_one (x / 2 ^ s) with h | h <;> simp [h]
theorem has_any (v : Value) (n : Nat) (f : Nat → Bool) (i : Int) (w : World) (h : Mp w v n f) :
  Calls Tryz.prog 54 #[v, .int .i64 i] w fun e w' => e = .returned (.bool (inB n i && f i.toNat)) ∧ w' = w := by
 have hh := mwithin_any v n f i w h
 have htop := h.top
 by_cases hi : inB n i = true
 ·rw [hi, Bool.true_and]
  rw [hi] at hh
  have hi' : 0 ≤ i ∧ i < (n : Int) := by simpa [inB] using hi
  rcases h.is with ⟨_, rfl⟩ | ⟨M, A, q, c, ws, rfl, h1, h2, h3, h4⟩
  ·omega
  obtain ⟨k, rfl⟩ : ∃ k : Nat, i = (k : Int) := ⟨i.toNat, by omega⟩
  have hk : k < n := by omega
  have hq : ws.length = q := by have := h3.len; rw [wcells_length] at this; omega
  have hkq : k / 64 < q := by have := h4.room; omega
  obtain ⟨b, o, rfl, hc⟩ := h3.at_ hkq
  have hcell := hc (k / 64) _ (wcells_get ws (k / 64) (by omega))
  have hx := h4.lt (k / 64)
  have hb := h4.bit k hk
  rw [Int.toNat_natCast, ← hb, bitW]
  obtain ⟨x, hxe⟩ : ∃ x, x = ws.getD (k / 64) 0 := ⟨_, rfl⟩
  rw [← hxe] at hcell hx ⊢
  have hki : (k : Int) / 64 < (q : Int) := by omega
  have hk0 : 0 ≤ (k : Int) / 64 := by omega
  have hkn : ((k : Int) / 64).toNat = k / 64 := by omega
  have hkm : 0 ≤ (k : Int) % 64 := by omega
  have hkr : min ((k : Int) % 64).toNat 64 = k % 64 := by omega
  have hand := bit_and (s := k % 64) hx
  have hsh : (x : Int) / 2 ^ (k % 64) = ((x / 2 ^ (k % 64) : Nat) : Int) := by simp
  rw [← hsh] at hand
  have Hand := qH hand
  clear h h3 h4 hc hb hxe hq hi hkq hand hsh
  go_enter Tryz.func54, Tryz.ntmps54
  go_wp2_with fail
  refine hh.mono ?_; clear hh; rintro e w1 ⟨rfl, rfl⟩
  go_wp2_with fail
  go_ret
  exact ⟨congrArg (fun b => Ending.returned (.bool b)) Hand.out, rfl⟩
 ·have hi2 : inB n i = false := by simpa using hi
  rw [hi2] at hh ⊢
  clear h hi hi2
  go_enter Tryz.func54, Tryz.ntmps54
  go_wp2_with fail
  refine hh.mono ?_; clear hh; rintro e w1 ⟨rfl, rfl⟩
  go_wp2_with fail
  go_ret
  exact ⟨rfl, rfl⟩
theorem tz64_at (z : Int) (x : Nat) (hz : z = (x : Int)) (hx : x < 18446744073709551616) (hx0 : x ≠ 0) (w : World) (hN : Tz w) :
  Calls Tryz.prog 176 #[.int .u64 z] w fun e w' => e = .returned (.int .i64 ((Lib.ctz 64 x : Nat) : Int)) ∧ w' = w := by
 subst hz
 exact tz64_any x hx hx0 w hN
structure Nw (n : Nat) (f : Nat → Bool) (a : Nat) (t : Bool) (r : Nat) : Prop where
 le : a ≤ r
 top : r ≤ a ∨ r ≤ 65600
 no : ∀ i, a ≤ i → i < r → i < n → f i = !t
structure Nq (n : Nat) (f : Nat → Bool) (a : Nat) (t : Bool) (r : Nat) : Prop where
 nx : Nxp n f a t r
 top : r ≤ a ∨ r ≤ 65600
theorem Nw.yes {n a r : Nat} {f : Nat → Bool} {t : Bool} {ws : List Nat} (h : Nw n f a t r) (hw : Wds n f ws) (hr : r < n) (hn : n ≤ 65536) {y : Nat} (hy : y = pickT t (ws.getD (r / 64) 0) / 2 ^ (r % 64)) (h0 : y ≠ 0) : Nq n f a t (r + Lib.ctz 64 y) := by
 obtain ⟨h1, h2, h3⟩ := word_yes (hw.lt (r / 64)) t hy h0
 have hle := h.le
 refine ⟨⟨by omega, fun i h4 h5 h6 => ?_, fun h6 => ?_⟩, .inr (by omega)⟩
 ·rcases Nat.lt_or_ge i r with h7 | h7
  ·exact h.no i h4 h7 h6
  ·rw [← hw.bit i h6, bitW, show i / 64 = r / 64 by omega]
   exact h3 _ (by omega) (by omega)
 ·rw [← hw.bit _ h6, bitW, show (r + Lib.ctz 64 y) / 64 = r / 64 by omega, show (r + Lib.ctz 64 y) % 64 = r % 64 + Lib.ctz 64 y by omega]
  exact h2
theorem Nw.next {n a r : Nat} {f : Nat → Bool} {t : Bool} {ws : List Nat} (h : Nw n f a t r) (hw : Wds n f ws) (hr : r < n) (hn : n ≤ 65536) (h0 : pickT t (ws.getD (r / 64) 0) / 2 ^ (r % 64) = 0) : Nw n f a t (r + (64 - r % 64)) := by
 have h3 := word_no (hw.lt (r / 64)) t h0
 have hle := h.le
 refine ⟨by omega, .inr (by omega), fun i h4 h5 h6 => ?_⟩
 rcases Nat.lt_or_ge i r with h7 | h7
 ·exact h.no i h4 h7 h6
 ·rw [← hw.bit i h6, bitW, show i / 64 = r / 64 by omega]
  exact h3 _ (by omega) (by omega)
theorem Nw.end_ {n a r : Nat} {f : Nat → Bool} {t : Bool} (h : Nw n f a t r) (hr : n ≤ r) : Nq n f a t r := ⟨⟨h.le, h.no, fun h1 => absurd h1 (by omega)⟩, h.top⟩
theorem xor_max {x : Nat} (hx : x < 18446744073709551616) : bits .xor .u64 (if IntKind.u64.signed = true then -1 else IntKind.u64.max) (x : Int) = ((pickT false x : Nat) : Int) := by
 have e : (if IntKind.u64.signed = true then -1 else IntKind.u64.max) = ((18446744073709551615 : Nat) : Int) := by decide
 have h1 : (BitVec.ofInt 64 ((18446744073709551615 : Nat) : Int)) = ~~~ 0#64 := by decide
 have h2 : (BitVec.ofInt 64 (x : Int)).toNat = x := by rw [BitVec.ofInt_natCast, BitVec.toNat_ofNat]; exact Nat.mod_eq_of_lt (by omega)
 rw [e]
 show IntKind.u64.wrap ((BitVec.ofInt 64 ((18446744073709551615 : Nat) : Int) ^^^ BitVec.ofInt 64 (x : Int)).toNat : Int) = _
 have h3 : (BitVec.ofInt 64 ((18446744073709551615 : Nat) : Int) ^^^ BitVec.ofInt 64 (x : Int)) = ~~~ BitVec.ofInt 64 (x : Int) := by
  rw [h1, BitVec.not_zero, BitVec.allOnes_xor]
 rw [h3, BitVec.toNat_not, h2, IntKind.wrap_u64, pickT, if_neg (by simp)]
 omega
theorem next_any (v : Value) (n : Nat) (f : Nat → Bool) (a : Nat) (t : Bool) (w : World) (h : Mp w v n f) (hN : Tz w) (ha : a < 9223372036854775808) :
  Calls Tryz.prog 153 #[v, .int .i64 (a : Int), .bool t] w fun e w' => ∃ r : Nat, e = .returned (.int .i64 (r : Int)) ∧ Nq n f a t r ∧ w' = w := by
 have hl := mlen_any v n f w h
 have htop := h.top
 have H := qH h; clear h
 have HN := qH hN; clear hN
 cases t
 ·go_enter Tryz.func153, Tryz.ntmps153
  go_wp2_with fail
  go_loopw [1, 7] (fun i _ wr => ∃ r : Nat, i = .int .i64 (r : Int) ∧ Nw n f a false r ∧ wr = w) (fun i _ _ => n - (intOf i).toNat)
  case atStart => exact ⟨a, rfl, ⟨Nat.le_refl _, .inl (Nat.le_refl _), fun i h1 h2 => absurd h2 (by omega)⟩, rfl⟩
  case round =>
   obtain ⟨r, rfl, hr, rfl⟩ := hrel
   have R := qH hr; clear hr
   have hrt := R.out.top
   have hnr : (n : Int) ≤ 65536 := by omega
   by_cases hlt : r < n
   ·rcases H.out.is with ⟨_, h0⟩ | ⟨M, A, q, c, ws, rfl, h1, h2, h3, h4⟩
    ·omega
    have hq : ws.length = q := by have := h3.len; rw [wcells_length] at this; omega
    have hkq : r / 64 < q := by have := h4.room; omega
    obtain ⟨b, o, rfl, hc⟩ := h3.at_ hkq
    have hcell := hc (r / 64) _ (wcells_get ws (r / 64) (by omega))
    have hx := h4.lt (r / 64)
    obtain ⟨x, hxe⟩ : ∃ x, x = ws.getD (r / 64) 0 := ⟨_, rfl⟩
    rw [← hxe] at hcell hx
    have hki : (r : Int) / 64 < (q : Int) := by omega
    have hk0 : 0 ≤ (r : Int) / 64 := by omega
    have hkn : ((r : Int) / 64).toNat = r / 64 := by omega
    have hkm : 0 ≤ (r : Int) % 64 := by omega
    have hkr : min ((r : Int) % 64).toNat 64 = r % 64 := by omega
    have hpl := pickT_lt hx false
    have hcx := xor_max hx
    obtain ⟨x2, hx2⟩ : ∃ x2, x2 = pickT false x := ⟨_, rfl⟩
    rw [← hx2] at hcx
    have hxp : x2 = pickT false x := hx2
    rw [← hxp] at hpl
    obtain ⟨y, hy⟩ : ∃ y, y = x2 / 2 ^ (r % 64) := ⟨_, rfl⟩
    have hyi : (x2 : Int) / 2 ^ (r % 64) = (y : Int) := by rw [hy]; simp
    have hyl : y < 18446744073709551616 := by rw [hy]; exact Nat.lt_of_le_of_lt (Nat.div_le_self _ _) hpl
    have hye : y = pickT false (ws.getD (r / 64) 0) / 2 ^ (r % 64) := by rw [hy, hxp, hxe]
    have Hw := qH h4
    have Hye := qH hye
    have Hyl := qH hyl
    clear h3 h4 hc hxe hq hkq hrt hxp hy hye hpl hyl hx2 hx
    by_cases hz : y = 0
    ·have hnx := R.out.next Hw.out hlt htop (by rw [← Hye.out]; exact hz)
     have Hnx := qH hnx
     rw [hz] at hyi
     clear hz hnx
     go_wp2_with fail
     refine hl.mono ?_; rintro e w1 ⟨rfl, hw1⟩; subst hw1
     go_wp2_with fail
     go_roundw
     case rel => exact ⟨_, by first | rfl | (congr 1; omega), Hnx.out, trivial⟩
     case measure => simp [intOf]; omega
    ·have hzi : ((y : Int) != 0) = true := by simp; omega
     have hyy := R.out.yes Hw.out hlt htop Hye.out hz
     have hkl : (r : Int) + (Lib.ctz 64 y : Int) < 9223372036854775808 := by have := hyy.top; omega
     have Hyy := qH hyy
     have Hz := qH hz
     obtain ⟨k, hk⟩ : ∃ k, k = Lib.ctz 64 y := ⟨_, rfl⟩
     rw [← hk] at hkl Hyy
     have Hk := qH hk
     clear hz hyy hk
     go_wp2_with fail
     refine hl.mono ?_; rintro e w1 ⟨rfl, hw1⟩; subst hw1
     go_wp2_with fail
     refine (tz64_at _ y rfl Hyl.out Hz.out _ HN.out).mono ?_; rintro e w2 ⟨rfl, hw2⟩; subst hw2
     rw [← Hk.out]
     go_wp2_with fail
     go_ret
     exact ⟨r + k, by first | rfl | simp, Hyy.out, rfl⟩
   ·have hni : ¬ (r : Int) < (n : Int) := by omega
    have hnd := R.out.end_ (by omega)
    have Hnd := qH hnd
    clear hnd
    go_wp2_with fail
    refine hl.mono ?_; rintro e w1 ⟨rfl, hw1⟩; subst hw1
    go_wp2_with fail
    go_ret
    exact ⟨r, rfl, Hnd.out, rfl⟩
 ·go_enter Tryz.func153, Tryz.ntmps153
  go_wp2_with fail
  go_loopw [1, 7] (fun i _ wr => ∃ r : Nat, i = .int .i64 (r : Int) ∧ Nw n f a true r ∧ wr = w) (fun i _ _ => n - (intOf i).toNat)
  case atStart => exact ⟨a, rfl, ⟨Nat.le_refl _, .inl (Nat.le_refl _), fun i h1 h2 => absurd h2 (by omega)⟩, rfl⟩
  case round =>
   obtain ⟨r, rfl, hr, rfl⟩ := hrel
   have R := qH hr; clear hr
   have hrt := R.out.top
   have hnr : (n : Int) ≤ 65536 := by omega
   by_cases hlt : r < n
   ·rcases H.out.is with ⟨_, h0⟩ | ⟨M, A, q, c, ws, rfl, h1, h2, h3, h4⟩
    ·omega
    have hq : ws.length = q := by have := h3.len; rw [wcells_length] at this; omega
    have hkq : r / 64 < q := by have := h4.room; omega
    obtain ⟨b, o, rfl, hc⟩ := h3.at_ hkq
    have hcell := hc (r / 64) _ (wcells_get ws (r / 64) (by omega))
    have hx := h4.lt (r / 64)
    obtain ⟨x, hxe⟩ : ∃ x, x = ws.getD (r / 64) 0 := ⟨_, rfl⟩
    rw [← hxe] at hcell hx
    have hki : (r : Int) / 64 < (q : Int) := by omega
    have hk0 : 0 ≤ (r : Int) / 64 := by omega
    have hkn : ((r : Int) / 64).toNat = r / 64 := by omega
    have hkm : 0 ≤ (r : Int) % 64 := by omega
    have hkr : min ((r : Int) % 64).toNat 64 = r % 64 := by omega
    have hpl := pickT_lt hx true
    have hxp : x = pickT true x := by rw [pickT, if_pos rfl]
    rw [← hxp] at hpl
    obtain ⟨y, hy⟩ : ∃ y, y = x / 2 ^ (r % 64) := ⟨_, rfl⟩
    have hyi : (x : Int) / 2 ^ (r % 64) = (y : Int) := by rw [hy]; simp
    have hyl : y < 18446744073709551616 := by rw [hy]; exact Nat.lt_of_le_of_lt (Nat.div_le_self _ _) hpl
    have hye : y = pickT true (ws.getD (r / 64) 0) / 2 ^ (r % 64) := by rw [hy, hxp, hxe]
    have Hw := qH h4
    have Hye := qH hye
    have Hyl := qH hyl
    clear h3 h4 hc hxe hq hkq hrt hxp hy hye hpl hyl
    by_cases hz : y = 0
    ·have hnx := R.out.next Hw.out hlt htop (by rw [← Hye.out]; exact hz)
     have Hnx := qH hnx
     rw [hz] at hyi
     clear hz hnx
     go_wp2_with fail
     refine hl.mono ?_; rintro e w1 ⟨rfl, hw1⟩; subst hw1
     go_wp2_with fail
     go_roundw
     case rel => exact ⟨_, by first | rfl | (congr 1; omega), Hnx.out, trivial⟩
     case measure => simp [intOf]; omega
    ·have hzi : ((y : Int) != 0) = true := by simp; omega
     have hyy := R.out.yes Hw.out hlt htop Hye.out hz
     have hkl : (r : Int) + (Lib.ctz 64 y : Int) < 9223372036854775808 := by have := hyy.top; omega
     have Hyy := qH hyy
     have Hz := qH hz
     obtain ⟨k, hk⟩ : ∃ k, k = Lib.ctz 64 y := ⟨_, rfl⟩
     rw [← hk] at hkl Hyy
     have Hk := qH hk
     clear hz hyy hk
     go_wp2_with fail
     refine hl.mono ?_; rintro e w1 ⟨rfl, hw1⟩; subst hw1
     go_wp2_with fail
     refine (tz64_at _ y rfl Hyl.out Hz.out _ HN.out).mono ?_; rintro e w2 ⟨rfl, hw2⟩; subst hw2
     rw [← Hk.out]
     go_wp2_with fail
     go_ret
     exact ⟨r + k, by first | rfl | simp, Hyy.out, rfl⟩
   ·have hni : ¬ (r : Int) < (n : Int) := by omega
    have hnd := R.out.end_ (by omega)
    have Hnd := qH hnd
    clear hnd
    go_wp2_with fail
    refine hl.mono ?_; rintro e w1 ⟨rfl, hw1⟩; subst hw1
    go_wp2_with fail
    go_ret
    exact ⟨r, rfl, Hnd.out, rfl⟩
end
section
open Go.RowKit Go.Proofs
theorem searchi_any (g : Nat) (eg : ∀ args w, (callFunc g args).run Tryz.prog w = .ok (.enter g args) w) (F : Int → Nat → Int × Bool) (x0 z : Int) (v : Value) (n : Nat) (f : Nat → Bool) (t : Bool) (w : World) (h : Mp w v n f) (hN : Tz w)
  (hz2 : z < 9223372036854775808) (h0 : -1 ≤ x0) (h1 : x0 ≤ (z.toNat : Int))
  (hF : ∀ (x : Int) (p : Nat), -1 ≤ x → x ≤ (p : Int) → p < 65536 → Calls Tryz.prog g #[.int .i64 x, .int .i64 (p : Int)] w fun e w' => e = .returned (.tuple #[.int .i64 (F x p).1, .bool (F x p).2]) ∧ w' = w)
  (hb : ∀ (x : Int) (p : Nat), -1 ≤ x → x ≤ (p : Int) → -1 ≤ (F x p).1 ∧ (F x p).1 ≤ (p : Int) + 1) :
  Calls Tryz.prog 117 #[v, .int .i64 z, .bool t, .int .i64 x0, .func (.func g) #[] #[]] w fun e w' => e = .returned (.int .i64 (goesP F x0 (plc n z.toNat f t))) ∧ w' = w := by
 have htop := h.top
 have hnx := fun a ha => next_any v n f a t w h hN ha
 have hwi := fun i => mwithin_any v n f i w h
 obtain ⟨a0, ha0⟩ : ∃ a0, a0 = z.toNat := ⟨_, rfl⟩
 have hmx : (z < 0 ∧ a0 = 0) ∨ (¬ z < 0 ∧ z = (a0 : Int)) := by omega
 have hal : a0 < 9223372036854775808 := by omega
 rw [← ha0] at h1 ⊢
 have Hf := qH hF; clear hF
 have Hb := qH hb; clear hb
 have Hn := qH hnx; clear hnx
 have Hi := qH hwi; clear hwi
 have H := qH h; clear h
 clear ha0 hN
 rcases hmx with ⟨hz, rfl⟩ | ⟨hz, rfl⟩
 all_goals
  have hzm : ¬ (0 : Int) < 0 := by omega
  go_enter Tryz.func117, Tryz.ntmps117
  go_wp2_with fail
  first | refine (Hn.out a0 hal).mono ?_ | refine (Hn.out 0 (by decide)).mono ?_
  rintro e w1 ⟨r0, rfl, hq0, hw1⟩
  subst hw1
  have Q0 := qH hq0; clear hq0
  go_wp2_with fail
  go_loopw [3, 11, 12, 13] (fun x i _ _ wr => ∃ (a r : Nat) (y : Int), x = .int .i64 y ∧ i = .int .i64 (r : Int) ∧ -1 ≤ y ∧ y ≤ (a : Int) ∧ a < 9223372036854775808 ∧ Nq n f a t r ∧ wr = w1 ∧ goesP F x0 (plc n _ f t) = goesP F y (plc n a f t)) (fun _ i _ _ _ => n - (intOf i).toNat)
  case atStart => exact ⟨_, r0, x0, rfl, rfl, h0, h1, by omega, Q0.out, rfl, rfl⟩
  case round =>
   obtain ⟨a, r, y, rfl, rfl, hy0, hy1, hal2, hq, rfl, he⟩ := hrel
   have Q := qH hq
   have He := qH he
   have hrl : (r : Int) < 9223372036854775808 := by have := hq.top; omega
   have hi := Hi.out (r : Int)
   clear he hq
   by_cases hlt : r < n
   ·rw [show inB n (r : Int) = true by simp [inB]; omega] at hi
    have hyr : y ≤ (r : Int) := by have := Q.out.nx.le; omega
    have hcall := Hf.out y r hy0 hyr (by omega)
    have hnext := Hn.out (r + 1) (by omega)
    obtain ⟨hb0, hb1⟩ := Hb.out y r hy0 hyr
    have hcons := Q.out.nx.cons hlt
    have He2 := qH (He.out.trans (by rw [hcons, goesP]))
    obtain ⟨y2, hy2⟩ : ∃ y2, y2 = (F y r).1 := ⟨_, rfl⟩
    obtain ⟨b2, hb2⟩ : ∃ b2, b2 = (F y r).2 := ⟨_, rfl⟩
    rw [← hy2, ← hb2] at hcall
    rw [← hy2] at hb0 hb1
    rw [← hy2, ← hb2] at He2
    clear hy2 hb2 hcons
    have hq2 : y2 ≤ (((r + 1 : Nat)) : Int) := by omega
    clear hy1 hyr hb1
    cases b2
    ·go_wp2_with fail
     refine hi.mono ?_; clear hi; rintro e w2 ⟨rfl, hw2⟩; subst hw2
     go_wp2_with fail
     refine hcall.mono ?_; clear hcall; rintro e w3 ⟨rfl, hw3⟩; subst hw3
     go_wp2_with fail
     refine hnext.mono ?_; clear hnext; rintro e w4 ⟨r4, rfl, hq4, hw4⟩; subst hw4
     have hle4 := hq4.nx.le
     have Q4 := qH hq4; clear hq4
     go_wp2_with fail
     go_roundw
     case rel => exact ⟨r + 1, r4, y2, rfl, rfl, hb0, hq2, by omega, Q4.out, trivial, He2.out⟩
     case measure => simp [intOf]; omega
    ·go_wp2_with fail
     refine hi.mono ?_; clear hi; rintro e w2 ⟨rfl, hw2⟩; subst hw2
     go_wp2_with fail
     refine hcall.mono ?_; clear hcall; rintro e w3 ⟨rfl, hw3⟩; subst hw3
     go_wp2_with fail
     go_ret
     exact ⟨by rw [He2.out]; rfl, rfl⟩
   ·rw [show inB n (r : Int) = false by simp [inB]; omega] at hi
    have hnil := Q.out.nx.nil (by omega)
    have He2 := qH (He.out.trans (by rw [hnil]))
    go_wp2_with fail
    refine hi.mono ?_; clear hi; rintro e w2 ⟨rfl, hw2⟩; subst hw2
    go_wp2_with fail
    go_ret
    exact ⟨by rw [He2.out]; rfl, rfl⟩
theorem count1_any (x : Int) (p : Nat) (h0 : -1 ≤ x) (h1 : x ≤ (p : Int)) (hp : p < 65536) (w : World) :
  Calls Tryz.prog 118 #[.int .i64 x, .int .i64 (p : Int)] w fun e w' => e = .returned (.tuple #[.int .i64 (x + 1), .bool false]) ∧ w' = w := by
 go_enter Tryz.func118, Tryz.ntmps118
 go_wp2_with fail
 go_ret2
 exact ⟨rfl, rfl⟩
theorem goes_countZ (l : List Nat) : ∀ c : Int, goesP (fun (c : Int) _ => (c + 1, false)) c l = c + (l.length : Int) := by
 induction l with
 | nil => intro c; simp [goesP]
 | cons p l ih => intro c; show goesP _ (c + 1) l = _; rw [ih, List.length_cons]; omega
def cntL (n : Nat) (f : Nat → Bool) : Nat := (plc n 0 f true).length
theorem count_any (v : Value) (n : Nat) (f : Nat → Bool) (w : World) (h : Mp w v n f) (hN : Tz w) :
  Calls Tryz.prog 76 #[v] w fun e w' => e = .returned (.int .i64 (cntL n f : Int)) ∧ w' = w := by
 have hh := searchi_any 118 (enters_of Tryz.func118 (by kernel_rfl) rfl) (fun c _ => (c + 1, false)) 0 0 v n f true w h hN (by decide) (by decide) (by decide) (fun x p a b c => count1_any x p a b c w) (fun x p a b => ⟨by show -1 ≤ x + 1; omega, by show x + 1 ≤ _; omega⟩)
 rw [goes_countZ] at hh
 have e : (0 : Int) + ((plc n (0 : Int).toNat f true).length : Int) = (cntL n f : Int) := by rw [Int.zero_add]; rfl
 rw [e] at hh
 clear h hN
 go_enter Tryz.func76, Tryz.ntmps76
 go_wp2_with fail
 refine hh.mono ?_; rintro e w1 ⟨rfl, rfl⟩
 go_wp2_with fail
 go_ret
 exact ⟨rfl, rfl⟩
end
section
open Go.RowKit Go.Proofs
theorem own_low {w : World} {B n c : Nat} {e : TypeId} {A : Option Addr} {xs : List Value} (h : w.ownsRow B e 1 (.slice A n c) n xs) (hn : 0 < n) : ∀ b o, A = some ⟨b, o, none⟩ → B ≤ b := by
 intro b o hA
 obtain ⟨g, cur, hg, hB, _⟩ := Mine.of_own h hn
 rw [hA] at hg
 injection hg with hg
 injection hg with hg _
 omega
def RetNums (w : World) (k : List Nat) (e : Ending) (w' : World) : Prop := ∃ A c, e = .returned (.slice A k.length c) ∧ Own w' w.heap.size 3 1 A k.length c (ncells k) ∧ Below w.heap.size w w' ∧ ∀ b o, A = some ⟨b, o, none⟩ → w.heap.size ≤ b
def Lays (w : World) (g : Nat) (caps : Array Value) (st : List Nat → Bool) : Prop :=
 ∀ (W : World) (A : Option Addr) (c : Nat) (k : List Nat) (p : Nat), Below w.heap.size w W → Own W w.heap.size 3 1 A k.length c (ncells k) → k.length ≤ p → p < 65536 →
  Calls Tryz.prog g (#[.slice A k.length c, .int .i64 (p : Int)] ++ caps) W fun e w' => ∃ A' c', e = .returned (.tuple #[.slice A' (k.length + 1) c', .bool (st k)]) ∧ Own w' w.heap.size 3 1 A' (k.length + 1) c' (ncells (k ++ [p])) ∧ Below w.heap.size W w' ∧ ∀ b o, A' = some ⟨b, o, none⟩ → w.heap.size ≤ b
theorem least1_any (B : Nat) (A : Option Addr) (c p b m : Nat) (k : List Nat) (w : World) (h : Own w B 3 1 A k.length c (ncells k)) (hB : B ≤ w.heap.size) (hk : k.length ≤ 65536) (hm : w.cell? ⟨b, 0, none⟩ = some (.int .i64 (m : Int))) (hbB : b < B) :
  Calls Tryz.prog 130 #[.slice A k.length c, .int .i64 (p : Int), .pointer (some ⟨b, 0, none⟩)] w fun e w' => ∃ A' c', e = .returned (.tuple #[.slice A' (k.length + 1) c', .bool (decide (k.length + 1 = m))]) ∧ Own w' B 3 1 A' (k.length + 1) c' (ncells (k ++ [p])) ∧ Below B w w' ∧ ∀ b o, A' = some ⟨b, o, none⟩ → B ≤ b := by
 have hb0 : Below w.heap.size w (w.alloc (.cells #[.int .i64 (p : Int)] 3)) := (Below.refl _ _).alloc (Nat.le_refl _) _
 have ho := h.below hb0
 have Hb0 := qH (hb0.mono hB)
 obtain ⟨q, hq⟩ : ∃ q, q = k.length := ⟨_, rfl⟩
 rw [← hq] at ho hk ⊢
 have Ho := qH ho
 have Hm := qH hm
 have hz : ((q : Int) + 1 == (m : Int)) = decide (q + 1 = m) := by
  by_cases e : q + 1 = m
  ·rw [decide_eq_true e]; simp; omega
  ·rw [decide_eq_false e]; simp; omega
 obtain ⟨y, hy⟩ : ∃ y, y = decide (q + 1 = m) := ⟨_, rfl⟩
 rw [← hy] at hz ⊢
 clear h ho hb0 hq hm hy
 go_enter Tryz.func130, Tryz.ntmps130
 go_wp2_with (at_builtin; refine wpList_append_i (B := B) rfl (.tmp 7) (.tmp 9) rfl rfl Ho.out ?pa (some ⟨w.heap.size, 0, none⟩) 1 1 [p] rfl (Sl.oneN _ _ _ _ rfl) ?pb ?pc)
 case pa => simp; omega
 case pb => omega
 intro A3 c3 w4 ho4 hb4 hrow4
 have hbw := Hb0.out.trans hb4
 have hm4 : w4.cell? ⟨b, 0, none⟩ = some (.int .i64 (m : Int)) := (Fr.of_belowAt (S := fun k => B ≤ k) hbw (fun k h => h)).cell_some Hm.out (by show ¬ B ≤ b; omega)
 have H4 := qH ho4
 have Hbw := qH hbw
 have HL4 := qH (own_low hrow4 (by omega))
 clear ho4 hb4 hrow4 hbw
 go_wp2_with fail
 go_quiet (fail)
 go_wp2_with fail
 go_ret2
 exact ⟨A3, c3, by first | rfl | simp, by rw [ncells_append]; exact H4.out.below (dn12 (Below.refl _ _) _), Hbw.out.trans (dn12 (Below.refl _ _) _), HL4.out⟩
theorem searchl_any (g : Nat) (eg : ∀ args w, (callFunc g args).run Tryz.prog w = .ok (.enter g args) w) (caps : Array Value) (st : List Nat → Bool) (z : Int) (v : Value) (n : Nat) (f : Nat → Bool) (t : Bool) (w : World) (h : Mp w v n f) (hN : Tz w)
  (hz2 : z < 9223372036854775808) (hF : Lays w g caps st) :
  Calls Tryz.prog 129 #[v, .int .i64 z, .bool t, .slice none 0 0, .func (.func g) #[] caps] w (RetNums w (goesP (fun k p => (k ++ [p], st k)) [] (plc n z.toNat f t))) := by
 have htop := h.top
 have hnx := fun a ha W hW => next_any v n f a t W (h.keep hW) (hN.keep hW) ha
 have hwi := fun i W hW => mwithin_any v n f i W (h.keep hW)
 obtain ⟨a0, ha0⟩ : ∃ a0, a0 = z.toNat := ⟨_, rfl⟩
 have hmx : (z < 0 ∧ a0 = 0) ∨ (¬ z < 0 ∧ z = (a0 : Int)) := by omega
 have hal : a0 < 9223372036854775808 := by omega
 rw [← ha0]
 have Hf := qH hF; clear hF
 have Hn := qH hnx; clear hnx
 have Hi := qH hwi; clear hwi
 have H := qH h; clear h
 clear ha0 hN
 rcases hmx with ⟨hz, rfl⟩ | ⟨hz, rfl⟩
 all_goals
  have hzm : ¬ (0 : Int) < 0 := by omega
  go_enter Tryz.func129, Tryz.ntmps129
  go_wp2_with fail
  first | refine (Hn.out a0 hal _ (Below.refl _ _)).mono ?_ | refine (Hn.out 0 (by decide) _ (Below.refl _ _)).mono ?_
  rintro e w1 ⟨r0, rfl, hq0, hw1⟩
  obtain rfl : w = w1 := hw1.symm
  have Q0 := qH hq0; clear hq0
  go_wp2_with fail
  go_loopw [3, 11, 12, 13] (fun x i _ _ wr => ∃ (a r : Nat) (k : List Nat) (A : Option Addr) (c : Nat), x = .slice A k.length c ∧ i = .int .i64 (r : Int) ∧ k.length ≤ a ∧ a < 9223372036854775808 ∧ Nq n f a t r ∧ Below w.heap.size w wr ∧ Own wr w.heap.size 3 1 A k.length c (ncells k) ∧ (∀ b o, A = some ⟨b, o, none⟩ → w.heap.size ≤ b) ∧ goesP (fun k p => (k ++ [p], st k)) [] (plc n _ f t) = goesP (fun k p => (k ++ [p], st k)) k (plc n a f t)) (fun _ i _ _ _ => n - (intOf i).toNat)
  case atStart => exact ⟨_, r0, [], none, 0, rfl, rfl, Nat.zero_le _, by omega, Q0.out, Below.refl _ _, Own.full (Sl.nil _ 1 0 (by decide)), fun b o e => (by cases e), rfl⟩
  case round =>
   obtain ⟨a, r, k, A, c, rfl, rfl, hka, hal2, hq, hbw, hown, hlo, he⟩ := hrel
   have Q := qH hq
   have He := qH he
   have Hbw := qH hbw
   have Hown := qH hown
   have Hlo := qH hlo
   have hrl : (r : Int) < 9223372036854775808 := by have := hq.top; omega
   have hi := Hi.out (r : Int) _ hbw
   clear he hq hbw hown hlo
   by_cases hlt : r < n
   ·rw [show inB n (r : Int) = true by simp [inB]; omega] at hi
    have hkr : k.length ≤ r := by have := Q.out.nx.le; omega
    have hcall := Hf.out wr A c k r Hbw.out Hown.out hkr (by omega)
    have hcons := Q.out.nx.cons hlt
    have He2 := qH (He.out.trans (by rw [hcons, goesP]))
    obtain ⟨b2, hb2⟩ : ∃ b2, b2 = st k := ⟨_, rfl⟩
    rw [← hb2] at hcall He2
    obtain ⟨q, hqk⟩ : ∃ q, q = k.length := ⟨_, rfl⟩
    rw [← hqk] at hcall hkr
    rw [← hqk]
    have Hqk := qH hqk
    clear hb2 hcons hka hqk
    cases b2
    ·go_wp2_with fail
     refine hi.mono ?_; clear hi; rintro e w2 ⟨rfl, hw2⟩
     obtain rfl : wr = w2 := hw2.symm
     go_wp2_with fail
     refine hcall.mono ?_; clear hcall; rintro e w3 ⟨A3, c3, rfl, ho3, hb3, hl3⟩
     have hbw3 := Hbw.out.trans hb3
     have hnext := Hn.out (r + 1) (by omega) w3 hbw3
     have Ho3 := qH ho3
     have Hl3 := qH hl3
     have Hb3 := qH hbw3
     clear ho3 hb3 hbw3 hl3
     go_wp2_with fail
     refine hnext.mono ?_; clear hnext; rintro e w4 ⟨r4, rfl, hq4, hw4⟩
     obtain rfl : w3 = w4 := hw4.symm
     have hle4 := hq4.nx.le
     have Q4 := qH hq4; clear hq4
     go_wp2_with fail
     go_roundw
     case rel => exact ⟨r + 1, r4, k ++ [r], A3, c3, by rw [List.length_append, List.length_singleton, ← Hqk.out], rfl, by rw [List.length_append, List.length_singleton, ← Hqk.out]; omega, by omega, Q4.out, Hb3.out, by rw [List.length_append, List.length_singleton, ← Hqk.out]; exact Ho3.out, Hl3.out, He2.out⟩
     case measure => simp [intOf]; omega
    ·go_wp2_with fail
     refine hi.mono ?_; clear hi; rintro e w2 ⟨rfl, hw2⟩
     obtain rfl : wr = w2 := hw2.symm
     go_wp2_with fail
     refine hcall.mono ?_; clear hcall; rintro e w3 ⟨A3, c3, rfl, ho3, hb3, hl3⟩
     have Ho3 := qH ho3
     have Hl3 := qH hl3
     have Hb3 := qH (Hbw.out.trans hb3)
     clear ho3 hb3 hl3
     go_wp2_with fail
     go_ret
     have hres := He2.out
     simp only [if_true] at hres
     refine ⟨A3, c3, ?_, ?_, Hb3.out, Hl3.out⟩
     ·rw [hres]
      simp [← Hqk.out]
     ·rw [hres, List.length_append, List.length_singleton, ← Hqk.out]
      exact Ho3.out
   ·rw [show inB n (r : Int) = false by simp [inB]; omega] at hi
    have hnil := Q.out.nx.nil (by omega)
    have He2 := qH (He.out.trans (by rw [hnil]))
    go_wp2_with fail
    refine hi.mono ?_; clear hi; rintro e w2 ⟨rfl, hw2⟩
    obtain rfl : wr = w2 := hw2.symm
    go_wp2_with fail
    go_ret
    have hres := He2.out
    exact ⟨A, c, by rw [hres]; rfl, by rw [hres]; exact Hown.out, Hbw.out, Hlo.out⟩
def leastL (m : Nat) (l : List Nat) : List Nat := if m ≤ l.length then l.take m else []
theorem least_any (v : Value) (n : Nat) (f : Nat → Bool) (m : Nat) (hm : 1 ≤ m) (hm63 : m < 9223372036854775808) (w : World) (h : Mp w v n f) (hN : Tz w) :
  Calls Tryz.prog 92 #[v, .int .i64 (m : Int)] w (RetNums w (leastL m (plc n 0 f false))) := by
 have hbx : Below w.heap.size w (w.alloc (.cells #[.int .i64 (m : Int)] 3)) := (Below.refl _ _).alloc (Nat.le_refl _) _
 obtain ⟨wb, hwb⟩ : ∃ x, x = w.alloc (.cells #[.int .i64 (m : Int)] 3) := ⟨_, rfl⟩
 have hcb : wb.cell? ⟨w.heap.size, 0, none⟩ = some (.int .i64 (m : Int)) := by rw [hwb]; exact cell_of_one (heap_alloc_new w _)
 have hsz : wb.heap.size = w.heap.size + 1 := by rw [hwb]; simp
 rw [← hwb] at hbx
 have hh := searchl_any 130 (enters_of Tryz.func130 (by kernel_rfl) rfl) #[.pointer (some ⟨w.heap.size, 0, none⟩)] (fun k => decide (k.length + 1 = m)) 0 v n f false wb (h.keep hbx) (hN.keep hbx) (by decide) (fun W A c k p hb ho hk hp => by
  refine least1_any _ A c p w.heap.size m k W ho hb.size (by omega) ?_ (by omega)
  exact (hb.cell (p := ⟨w.heap.size, 0, none⟩) (by show w.heap.size < _; omega)).trans hcb)
 have hk := goes_least m (plc n 0 f false) [] (by simp; omega)
 rw [List.nil_append, List.length_nil, Nat.sub_zero] at hk
 have hk2 : goesP (fun k p => (k ++ [p], (fun k => decide (k.length + 1 = m)) k)) [] (plc n (0 : Int).toNat f false) = (plc n 0 f false).take m := hk
 rw [hk2] at hh
 obtain ⟨y, hy⟩ : ∃ y, y = (plc n 0 f false).take m := ⟨_, rfl⟩
 have hle : leastL m (plc n 0 f false) = if m ≤ y.length then y else [] := by
  rw [leastL, hy, List.length_take]
  by_cases e : m ≤ (plc n 0 f false).length
  ·rw [if_pos e, if_pos (by omega)]
  ·rw [if_neg e, if_neg (by omega)]
 have hyl : y.length ≤ 65536 := by
  rw [hy, List.length_take]
  have h1 : (plc n 0 f false).length ≤ n := plc_len_le
  have := h.top
  omega
 rw [← hy] at hh
 rw [hle]
 have Hbx := qH hbx
 have Hcb := qH hcb
 have hm1 : ¬ (m : Int) < 1 := by omega
 obtain ⟨q, hq⟩ : ∃ q, q = y.length := ⟨_, rfl⟩
 have hq2 : y.length = q := hq.symm
 unfold RetNums at hh
 rw [hq2] at hh hyl ⊢
 have Hq := qH hq
 have Hsz := qH hsz
 subst hwb
 clear hk hk2 hle h hN hbx hcb hy hq hq2 hsz
 by_cases hlt : m ≤ q
 ·have hl : ¬ (q : Int) < (m : Int) := by omega
  rw [if_pos hlt]
  clear hlt hm
  go_enter Tryz.func92, Tryz.ntmps92
  go_wp2_with fail
  refine hh.mono ?_; clear hh; rintro e w1 ⟨A, c, rfl, ho, hb, hl⟩
  have hcm : w1.cell? ⟨w.heap.size, 0, none⟩ = some (.int .i64 (m : Int)) := (hb.cell (p := ⟨w.heap.size, 0, none⟩) (by show w.heap.size < _; have := Hsz.out; omega)).trans Hcb.out
  have Ho := qH (ho.lower (B' := w.heap.size) (by have := Hsz.out; omega))
  have Hb := qH (Hbx.out.trans (hb.mono (by have := Hsz.out; omega)))
  have Hl := qH (show ∀ b o, A = some ⟨b, o, none⟩ → w.heap.size ≤ b from fun b o e => by have := hl b o e; have := Hsz.out; omega)
  clear ho hb hl
  go_wp2_with fail
  go_ret
  exact ⟨A, c, by rw [← Hq.out]; rfl, by rw [← Hq.out]; exact Ho.out, Hb.out, Hl.out⟩
 ·have hl : (q : Int) < (m : Int) := by omega
  rw [if_neg hlt]
  clear hlt hm
  go_enter Tryz.func92, Tryz.ntmps92
  go_wp2_with fail
  refine hh.mono ?_; clear hh; rintro e w1 ⟨A, c, rfl, ho, hb, hl⟩
  have hcm : w1.cell? ⟨w.heap.size, 0, none⟩ = some (.int .i64 (m : Int)) := (hb.cell (p := ⟨w.heap.size, 0, none⟩) (by show w.heap.size < _; have := Hsz.out; omega)).trans Hcb.out
  have Hb := qH (Hbx.out.trans (hb.mono (by have := Hsz.out; omega)))
  have Hl := qH (show ∀ b o, A = some ⟨b, o, none⟩ → w.heap.size ≤ b from fun b o e => by have := hl b o e; have := Hsz.out; omega)
  clear ho hb hl
  go_wp2_with fail
  go_ret
  exact ⟨none, 0, rfl, Own.full (Sl.nil _ 1 0 (by decide)), Hb.out, fun b o e => (by cases e)⟩
theorem least_no (v : Value) (z : Int) (hz : z < 1) (w : World) :
  Calls Tryz.prog 92 #[v, .int .i64 z] w (RetNums w []) := by
 have Hbx := qH (show Below w.heap.size w (w.alloc (.cells #[.int .i64 z] 3)) from (Below.refl _ _).alloc (Nat.le_refl _) _)
 go_enter Tryz.func92, Tryz.ntmps92
 go_wp2_with fail
 go_ret
 exact ⟨none, 0, rfl, Own.full (Sl.nil _ 1 0 (by decide)), Hbx.out, fun b o e => (by cases e)⟩
end
section
open Go.RowKit Go.Proofs
end
section
open Go.RowKit Go.Proofs
end
section
open Go.RowKit Go.Proofs
theorem info_w : (Tryz.prog.info? 36).map (fun i => (i.zero, i.size, i.bytes)) = some (some (.int .u64 0), 1, 8) := by kernel_rfl
structure Bp (w : World) (M B n : Nat) (f : Nat → Bool) : Prop where
 made : w.cell? ⟨M, 0, none⟩ = some (.bool true)
 num : w.cell? ⟨M, 1, none⟩ = some (.int .i64 (n : Int))
 ex : ∃ (q c : Nat) (ws : List Nat), w.cell? ⟨M, 2, none⟩ = some (.slice (some ⟨B, 0, none⟩) q c) ∧ Rw w B 36 1 q c (wcells ws) ∧ Wds n f ws ∧ q ≤ 1025
 top : n ≤ 65536
 ne : M ≠ B
section
variable {w w' : World} {M B n : Nat} {f : Nat → Bool}
theorem Bp.mp (h : Bp w M B n f) : Mp w (.pointer (some ⟨M, 0, none⟩)) n f := by
 obtain ⟨q, c, ws, h1, h2, h3, h4⟩ := h.ex
 exact ⟨h.top, .inr ⟨M, _, q, c, ws, rfl, h.num, h1, h2.sl, h3⟩⟩
theorem Bp.fr {S : Nat → Prop} (h : Bp w M B n f) (hf : Fr S w w') (hM : ¬ S M) (hB : ¬ S B) : Bp w' M B n f := by
 obtain ⟨q, c, ws, h1, h2, h3, h4⟩ := h.ex
 exact ⟨hf.cell_some h.made hM, hf.cell_some h.num hM, ⟨q, c, ws, hf.cell_some h1 hM, h2.fr hf hB, h3, h4⟩, h.top, h.ne⟩
theorem Bp.later (h : Bp w M B n f) (hb : Below w.heap.size w w') : Bp w' M B n f := h.fr (Fr.of_below hb : Fr (fun _ => False) w w') (fun h => h) (fun h => h)
theorem Bp.ltM (h : Bp w M B n f) : M < w.heap.size := World.block_lt_of_cell? w _ h.made
theorem Bp.ltB (h : Bp w M B n f) : B < w.heap.size := by
 obtain ⟨q, c, ws, h1, h2, h3, h4⟩ := h.ex
 exact h2.lt
end
theorem makew_eq (z : Int) (k : Nat) (hz : z = (k : Int)) (hk : k ≤ 1048576) (w : World) :
  (Instr.makeSlice 136 (.int .i64 z) (.int .i64 z)).run Tryz.prog w = .ok (.slice (some ⟨w.heap.size, 0, none⟩) k k) (w.alloc (.cells (madeCells #[.int .u64 0] k) 36)) := by
 obtain ⟨i0, hi, hz0, hz1, hz2⟩ := info_parts info_w
 subst hz
 have h := run_make (P := Tryz.prog) w 136 36 i0 (.int .u64 0) Tryz.underlying136 hi hz0 .i64 .i64 (k : Int) (k : Int) (by omega) (by omega) (by rw [hz2]; omega) (by omega)
 rw [hz1, Nat.mul_one, Int.toNat_natCast] at h
 exact h
theorem Rw.noughtsW (w : World) (k : Nat) (hk : k ≤ 1048576) : Rw (w.alloc (.cells (madeCells #[.int .u64 0] k) 36)) w.heap.size 36 1 k k (wcells (List.replicate k 0)) := by
 have h := Rw.new w (madeCells #[.int .u64 0] k) 36 1 k (by rw [size_madeCells, Nat.mul_one]) (by unfold maxLen; omega)
 rw [toList_madeCells_one] at h
 rwa [wcells, List.map_replicate]
theorem noughts_bit (k i : Nat) : bitW (List.replicate k 0) i = false := by
 rw [bitW]
 have : (List.replicate k 0).getD (i / 64) 0 = 0 := by
  rw [List.getD_eq_getElem?_getD, List.getElem?_replicate]
  split <;> rfl
 rw [this, Nat.zero_testBit]
theorem noughts_lt (k j : Nat) : (List.replicate k 0).getD j 0 < 18446744073709551616 := by
 have : (List.replicate k 0).getD j 0 = 0 := by
  rw [List.getD_eq_getElem?_getD, List.getElem?_replicate]
  split <;> rfl
 rw [this]; omega
def RetBp (n : Nat) (f : Nat → Bool) (w : World) (e : Ending) (w' : World) : Prop := ∃ M B, e = .returned (.pointer (some ⟨M, 0, none⟩)) ∧ Bp w' M B n f ∧ Below w.heap.size w w' ∧ w.heap.size ≤ M ∧ w.heap.size ≤ B
theorem mpnew_yes (n : Nat) (hn : n ≤ 65536) (w : World) :
  Calls Tryz.prog 87 #[.int .i64 (n : Int)] w (RetBp n (fun _ => false) w) := by
 have hn1 : ¬ (65536 : Int) < (n : Int) := by omega
 obtain ⟨k, hk⟩ : ∃ k, k = (n + 63) / 64 := ⟨_, rfl⟩
 have hmk := makew_eq (((n : Int) + 64 - 1) / 64) k (by rw [hk]; omega) (by omega)
 have hkl : k ≤ 1025 := by omega
 have hkn : n ≤ k * 64 := by omega
 clear hk
 go_enter Tryz.func87, Tryz.ntmps87
 go_wp2_with fail
 go_ret
 have hb0 : Below w.heap.size w (w.alloc (.cells (madeCells #[.int .u64 0] k) 36)) := (Below.refl _ _).alloc (Nat.le_refl _) _
 have hs0 : (w.alloc (.cells (madeCells #[.int .u64 0] k) 36)).heap.size = w.heap.size + 1 := by simp
 obtain ⟨w1, hw1⟩ : ∃ x, x = w.alloc (.cells (madeCells #[.int .u64 0] k) 36) := ⟨_, rfl⟩
 have hr := Rw.noughtsW w k (by omega)
 rw [← hw1] at hb0 hs0 hr ⊢
 have hx := heap_alloc_new w1 (.cells #[.bool true, .int .i64 (n : Int), .slice (some ⟨w.heap.size, 0, none⟩) k k] 181)
 rw [hs0] at hx
 have hb1 : Below w1.heap.size w1 (w1.alloc (.cells #[.bool true, .int .i64 (n : Int), .slice (some ⟨w.heap.size, 0, none⟩) k k] 181)) := (Below.refl _ _).alloc (Nat.le_refl _) _
 refine ⟨w.heap.size + 1, w.heap.size, rfl, ⟨by rw [cell_of_row _ _ _ _ _ _ hx]; rfl, by rw [cell_of_row _ _ _ _ _ _ hx]; rfl, ⟨k, k, List.replicate k 0, by rw [cell_of_row _ _ _ _ _ _ hx]; rfl, hr.later hb1, ⟨by rw [List.length_replicate]; exact hkn, noughts_lt k, fun i _ => noughts_bit k i⟩, hkl⟩, hn, by omega⟩, hb0.trans (hb1.mono (by omega)), by omega, Nat.le_refl _⟩
theorem shl_one {s : Nat} (hs : s < 64) : IntKind.u64.wrap (2 ^ s) = ((2 ^ s : Nat) : Int) := by
 have h : (2 : Nat) ^ s < 18446744073709551616 := Nat.lt_of_lt_of_le (Nat.pow_lt_pow_right (by omega) hs) (by decide)
 have e : (2 : Int) ^ s = ((2 ^ s : Nat) : Int) := by simp
 rw [e]
 obtain ⟨p, hp⟩ : ∃ p, p = 2 ^ s := ⟨_, rfl⟩
 rw [← hp] at h ⊢
 rw [IntKind.wrap_u64]
 omega
theorem xor_w64 {x y : Nat} (hx : x < 18446744073709551616) (hy : y < 18446744073709551616) : bits .xor .u64 (x : Int) (y : Int) = ((x ^^^ y : Nat) : Int) := by
 have h1 : (BitVec.ofInt 64 (x : Int)).toNat = x := by rw [BitVec.ofInt_natCast, BitVec.toNat_ofNat]; exact Nat.mod_eq_of_lt (by omega)
 have h2 : (BitVec.ofInt 64 (y : Int)).toNat = y := by rw [BitVec.ofInt_natCast, BitVec.toNat_ofNat]; exact Nat.mod_eq_of_lt (by omega)
 have h3 : x ^^^ y < 2 ^ 64 := Nat.xor_lt_two_pow (by omega) (by omega)
 show IntKind.u64.wrap ((BitVec.ofInt 64 (x : Int) ^^^ BitVec.ofInt 64 (y : Int)).toNat : Int) = _
 rw [BitVec.toNat_xor, h1, h2, IntKind.wrap_u64]
 omega
theorem Rw.turnW {w : World} {B q c u : Nat} {ws : List Nat} (h : Rw w B 36 1 q c (wcells ws)) (hu : u < q) (y : Nat) : Rw (w.setCell ⟨B, u, none⟩ (.int .u64 (y : Int))) B 36 1 q c (wcells (ws.set u y)) := by
 have := h.store (o := u) (vs := [.int .u64 (y : Int)]) (by simp; omega) (by intro v hv; rw [List.mem_singleton.1 hv]; rfl)
 have e : (wcells ws).take u ++ [Value.int .u64 (y : Int)] ++ (wcells ws).drop (u + 1) = wcells (ws.set u y) := by
  rw [wcells, wcells, List.map_set, List.set_eq_take_append_cons_drop, if_pos (by rw [List.length_map]; have := h.len; rw [wcells_length] at this; omega)]
  simp
 rw [← e]
 exact this
theorem set_turn (M B n i : Nat) (f : Nat → Bool) (on : Bool) (w : World) (h : Bp w M B n f) (hi : i < n) (hne : (f i == on) = false) :
  Calls Tryz.prog 55 #[.pointer (some ⟨M, 0, none⟩), .int .i64 (i : Int), .bool on] w fun e w' => e = .returned (.bool true) ∧ Bp w' M B n (putB f i on) ∧ Fr (fun b => b = B) w w' := by
 have htop := h.top
 have HWI := qH (show IntKind.i64.wrap ((i : Int) / 64) = (i : Int) / 64 by rw [IntKind.wrap_i64]; omega)
 have HWM := qH (show IntKind.i64.wrap ((i : Int) % 64) = (i : Int) % 64 by rw [IntKind.wrap_i64]; omega)
 have hw := mwithin_any _ n f (i : Int) w h.mp
 have hh := has_any _ n f (i : Int) w h.mp
 rw [show inB n (i : Int) = true by simp [inB]; omega] at hw hh
 rw [Bool.true_and, Int.toNat_natCast] at hh
 obtain ⟨q, c, ws, h1, h2, h3, h4⟩ := h.ex
 have hq : ws.length = q := by have := h2.len; rw [wcells_length] at this; omega
 have hkq : i / 64 < q := by have := h3.room; omega
 obtain ⟨x, hxe⟩ : ∃ x, x = ws.getD (i / 64) 0 := ⟨_, rfl⟩
 have hx := h3.lt (i / 64)
 have hcell := h2.cell (wcells_get ws (i / 64) (by omega))
 rw [← hxe] at hcell hx
 have hfz := h2.free (i / 64)
 have hki : (i : Int) / 64 < (q : Int) := by omega
 have hk0 : 0 ≤ (i : Int) / 64 := by omega
 have hkn : ((i : Int) / 64).toNat = i / 64 := by omega
 have hkm : 0 ≤ (i : Int) % 64 := by omega
 have hkr : min ((i : Int) % 64).toNat 64 = i % 64 := by omega
 have hsl := shl_one (s := i % 64) (by omega)
 have hp : 2 ^ (i % 64) < 18446744073709551616 := Nat.lt_of_lt_of_le (Nat.pow_lt_pow_right (by omega) (show i % 64 < 64 by omega)) (by decide)
 obtain ⟨p2, hp2⟩ : ∃ p2, p2 = 2 ^ (i % 64) := ⟨_, rfl⟩
 rw [← hp2] at hsl hp
 have hxw := xor_w64 hx hp
 obtain ⟨y, hy⟩ : ∃ y, y = x ^^^ p2 := ⟨_, rfl⟩
 rw [← hy] at hxw
 have hbt := bitW_turn (ws := ws) (i := i) (x := x) (by omega) hxe.symm
 rw [← hp2, ← hy] at hbt
 have hyl : y < 18446744073709551616 := by rw [hy]; exact Nat.lt_of_lt_of_le (Nat.xor_lt_two_pow (n := 64) (by omega) (by omega)) (by decide)
 have hwd : Wds n (putB f i on) (ws.set (i / 64) y) := by
  refine ⟨by rw [List.length_set]; exact h3.room, fun j => ?_, fun j hj => ?_⟩
  ·by_cases e : i / 64 = j
   ·subst e
    rw [List.getD_eq_getElem?_getD, List.getElem?_set_self (by omega)]
    exact hyl
   ·rw [List.getD_eq_getElem?_getD, List.getElem?_set_ne e, ← List.getD_eq_getElem?_getD]
    exact h3.lt j
  ·rw [hbt j, putB]
   by_cases e : j = i
   ·rw [if_pos e, if_pos e, h3.bit i hi]
    revert hne
    cases f i <;> cases on <;> simp
   ·rw [if_neg e, if_neg e, h3.bit j hj]
 have Hw := qH hwd
 have HU := qH (show i / 64 < q from hkq)
 have HQ := qH h4
 have H2 := qH h2
 have HB := qH h
 have H1 := qH h1
 clear hwd h2 h hbt hp2 hy hyl h3 h4 hq hkq hxe
 obtain ⟨z, hz⟩ : ∃ z, z = f i := ⟨_, rfl⟩
 rw [← hz] at hh hne
 clear hz
 go_enter Tryz.func55, Tryz.ntmps55
 go_wp2_with fail
 refine hw.mono ?_; clear hw; rintro e w1 ⟨rfl, hw1⟩
 obtain rfl : w = w1 := hw1.symm
 go_wp2_with fail
 refine hh.mono ?_; clear hh; rintro e w2 ⟨rfl, hw2⟩
 obtain rfl : w = w2 := hw2.symm
 go_wp2_with fail
 have hwi := HWI.out
 have hwm := HWM.out
 go_region
 obtain ⟨w3, hw3⟩ : ∃ x, x = w.setCell ⟨B, i / 64, none⟩ (.int .u64 (y : Int)) := ⟨_, rfl⟩
 have hf3 : Fr (fun b => b = B) w w3 := by rw [hw3]; exact (Fr.refl (fun b => b = B) w).setCell (p := ⟨B, i / 64, none⟩) (.inr rfl) _
 have hr3 : Rw w3 B 36 1 q c (wcells (ws.set (i / 64) y)) := by rw [hw3]; exact H2.out.turnW HU.out y
 rw [← hw3]
 have Hf3 := qH hf3
 have Hr3 := qH hr3
 clear hf3 hr3 hw3 hwi hwm
 go_wp2_with fail
 go_ret
 have hfd : Fr (fun b => b = B) w w3.drew := Hf3.out.drew
 have hb := HB.out
 exact ⟨rfl, ⟨hfd.cell_some hb.made hb.ne, hfd.cell_some hb.num hb.ne, ⟨q, c, _, hfd.cell_some H1.out hb.ne, Hr3.out.fr (Fr.drew (Fr.refl (fun _ => False) w3)) (fun h => h), Hw.out, by have := HQ.out; omega⟩, hb.top, hb.ne⟩, hfd⟩
theorem set_stays (v : Value) (n : Nat) (f : Nat → Bool) (i : Int) (on : Bool) (w : World) (h : Mp w v n f) (hno : (inB n i && (f i.toNat != on)) = false) :
  Calls Tryz.prog 55 #[v, .int .i64 i, .bool on] w fun e w' => e = .returned (.bool false) ∧ w' = w := by
 have hw := mwithin_any v n f i w h
 have hh := has_any v n f i w h
 by_cases hi : inB n i = true
 ·rw [hi] at hw hh hno
  rw [Bool.true_and] at hh hno
  obtain ⟨z, hz⟩ : ∃ z, z = f i.toNat := ⟨_, rfl⟩
  rw [← hz] at hh hno
  have hzo : z = on := by
   revert hno
   cases z <;> cases on <;> simp
  subst hzo
  clear hno hi h hz
  go_enter Tryz.func55, Tryz.ntmps55
  go_wp2_with fail
  refine hw.mono ?_; clear hw; rintro e w1 ⟨rfl, hw1⟩
  obtain rfl : w = w1 := hw1.symm
  go_wp2_with fail
  refine hh.mono ?_; clear hh; rintro e w2 ⟨rfl, hw2⟩
  obtain rfl : w = w2 := hw2.symm
  go_wp2_with fail
  go_ret
  exact ⟨rfl, rfl⟩
 ·have hi2 : inB n i = false := by simpa using hi
  rw [hi2] at hw
  clear hno hi hh h
  go_enter Tryz.func55, Tryz.ntmps55
  go_wp2_with fail
  refine hw.mono ?_; clear hw; rintro e w1 ⟨rfl, hw1⟩
  obtain rfl : w = w1 := hw1.symm
  go_wp2_with fail
  go_ret
  exact ⟨rfl, rfl⟩
def setB (n : Nat) (f : Nat → Bool) (i : Int) (on : Bool) : Bool := inB n i && (f i.toNat != on)
def setF (n : Nat) (f : Nat → Bool) (i : Int) (on : Bool) : Nat → Bool := if inB n i then putB f i.toNat on else f
theorem setF_same {n : Nat} {f : Nat → Bool} {i : Int} {on : Bool} (h : setB n f i on = false) : setF n f i on = f := by
 unfold setB at h
 unfold setF
 by_cases hi : inB n i = true
 ·rw [if_pos hi]
  rw [hi, Bool.true_and] at h
  funext j
  rw [putB]
  by_cases e : j = i.toNat
  ·rw [if_pos e, e]
   revert h
   cases f i.toNat <;> cases on <;> simp
  ·rw [if_neg e]
 ·rw [if_neg hi]
theorem set_any (M B n : Nat) (i : Int) (f : Nat → Bool) (on : Bool) (w : World) (h : Bp w M B n f) :
  Calls Tryz.prog 55 #[.pointer (some ⟨M, 0, none⟩), .int .i64 i, .bool on] w fun e w' => e = .returned (.bool (setB n f i on)) ∧ Bp w' M B n (setF n f i on) ∧ Fr (fun b => b = B) w w' := by
 by_cases hs : setB n f i on = true
 ·have hin : inB n i = true := by unfold setB at hs; revert hs; cases inB n i <;> simp
  have hne : (f i.toNat == on) = false := by unfold setB at hs; rw [hin] at hs; revert hs; cases f i.toNat <;> cases on <;> simp
  have hi : 0 ≤ i ∧ i < (n : Int) := by simpa [inB] using hin
  have := set_turn M B n i.toNat f on w h (by omega) hne
  rw [show ((i.toNat : Nat) : Int) = i by omega] at this
  rw [hs, setF, if_pos hin]
  exact this
 ·have hs2 : setB n f i on = false := by simpa using hs
  rw [hs2, setF_same hs2]
  refine (set_stays _ n f i on w h.mp hs2).mono ?_
  rintro e w' ⟨rfl, rfl⟩
  exact ⟨rfl, h, Fr.refl _ _⟩
end
end Go.Proofs.YtokbhgbajdomnaaGreatDoor
