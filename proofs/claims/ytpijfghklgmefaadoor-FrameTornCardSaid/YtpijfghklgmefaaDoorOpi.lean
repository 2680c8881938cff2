/-
  Arguments as they are read: bytes, integers, bools. No condition.
-/
import Derived.Test.YtpijfghklgmefaaDoorGa
import Derived.ProofKit
import Derived.OpenShut
import Derived.ChangeOld
import Derived.Deep.Matrix
import Derived.Deep.Grids
namespace Go.Proofs.YtpijfghklgmefaaDoor
open Go.ChangeShapes Go.WideShapes Go.ChangeAt Go.RowKit Go.Proofs Go.Deep
set_option linter.unusedVariables false

theorem bools_sl {w : World} {a : Addr} {n c : Nat} {B : Nat → Bool} (hl : n ≤ c) (hm : c ≤ maxLen) (hcell : ∀ i, i < c → w.cell? (a.add i) = some (.bool (B i))) :
    Sl w 1 (some a) ((List.range n).map B).length c (bcells ((List.range n).map B)) := by
  refine ⟨by simp [bcells], by simpa using hl, hm, fun j u hu => ?_⟩
  have hj : j < n := by
    rcases Nat.lt_or_ge j n with h' | h'
    · exact h'
    · rw [List.getElem?_eq_none (by simpa [bcells] using h')] at hu; cases hu
  obtain ⟨b, o, spot⟩ := a
  have hspot : spot = none := by simpa [Addr.add] using World.cell?_spot (hcell 0 (by omega))
  subst hspot
  refine ⟨b, o, rfl, ?_⟩
  have h1 := hcell j (by omega)
  rw [Go.WideShapes.add_plain] at h1
  rw [h1]
  simpa [bcells, hj] using hu
section
variable {H : Type} {enc : TypeId × Value → H} {w : World} {base : Nat} {held : Bool} {fuel : Nat}
set_option maxRecDepth 100000 in
theorem arg_u8 {v : Value} {d : DataW H} {p : List MemPlace} {r : Reach} {b0 : Nat} (hv : Value.okWide Tryd.prog w r b0 26 v) (h : DataW.Trod enc Tryd.prog w base (fun _ => true) held 26 v d p) :
    ∃ A cp, ∃ l : List UInt8, v = .slice A l.length cp ∧ Sl w 1 A l.length cp (cells l) := by
  obtain ⟨A, n, cp, rfl⟩ := okWide_slice Tryd.underlying26 hv
  obtain ⟨fuel, hf⟩ := h
  have : ∃ l : List UInt8, Sl w 1 A n cp (cells l) := by
    rcases open_ints Tryd.underlying26 Tryd.underlying5 (by kernel_rfl) hf with ⟨hcs, _⟩ | ⟨x, l, c, zs, hcs, _, hl, hm, hz, _, hcell, hwz⟩
    · simp [Value.cells] at hcs
      obtain ⟨rfl, rfl, rfl⟩ := hcs
      exact ⟨[], Sl.nil w 1 0 (by decide)⟩
    · simp [Value.cells] at hcs
      obtain ⟨rfl, rfl, rfl⟩ := hcs
      exact IsRow.sl (.inr ⟨_, rfl, hl, hm, by simpa using hz, hcell, hwz⟩)
  obtain ⟨l, hl⟩ := this
  have := hl.len
  rw [cells_length, Nat.mul_one] at this
  subst this
  exact ⟨A, cp, l, rfl, hl⟩
set_option maxRecDepth 100000 in
theorem arg_int {v : Value} {d : DataW H} {p : List MemPlace} {r : Reach} {b0 : Nat} (hv : Value.okWide Tryd.prog w r b0 3 v) (h : DataW.Trod enc Tryd.prog w base (fun _ => true) held 3 v d p) :
    ∃ z : Int, v = .int .i64 z ∧ -9223372036854775808 ≤ z ∧ z < 9223372036854775808 := by
  obtain ⟨z, rfl, rfl, rfl, w0⟩ := open_int Tryd.underlying3 hv h
  exact ⟨z, rfl, by have := bounds_i64 w0; omega⟩
set_option maxRecDepth 100000 in
theorem arg_byte {v : Value} {d : DataW H} {p : List MemPlace} {r : Reach} {b0 : Nat} (hv : Value.okWide Tryd.prog w r b0 5 v) (h : DataW.Trod enc Tryd.prog w base (fun _ => true) held 5 v d p) :
    ∃ x : UInt8, v = .int .u8 (x.toNat : Int) := by
  obtain ⟨z, rfl, rfl, rfl, w0⟩ := open_int Tryd.underlying5 hv h
  have := bounds_u8 w0
  exact ⟨UInt8.ofNat z.toNat, by rw [UInt8.toNat_ofNat']; congr 1; omega⟩
set_option maxRecDepth 100000 in
theorem arg_ints {v : Value} {d : DataW H} {p : List MemPlace} {r : Reach} {b0 : Nat} (hv : Value.okWide Tryd.prog w r b0 49 v) (h : DataW.Trod enc Tryd.prog w base (fun _ => true) held 49 v d p) :
    ∃ A cp, ∃ l : List Int, v = .slice A l.length cp ∧ Sl w 1 A l.length cp (icells l) ∧ ∀ z ∈ l, -9223372036854775808 ≤ z ∧ z < 9223372036854775808 := by
  obtain ⟨A, n, cp, rfl⟩ := okWide_slice Tryd.underlying49 hv
  obtain ⟨fuel, hf⟩ := h
  have : ∃ l : List Int, l.length = n ∧ Sl w 1 A n cp (icells l) ∧ ∀ z ∈ l, -9223372036854775808 ≤ z ∧ z < 9223372036854775808 := by
    rcases open_ints Tryd.underlying49 Tryd.underlying3 (by kernel_rfl) hf with ⟨hcs, _⟩ | ⟨x, l, c, zs, hcs, _, hl, hm, hz, _, hcell, hwz⟩
    · simp [Value.cells] at hcs
      obtain ⟨rfl, rfl, rfl⟩ := hcs
      exact ⟨[], rfl, Sl.nil w 1 0 (by decide), fun z hz => by cases hz⟩
    · simp [Value.cells] at hcs
      obtain ⟨rfl, rfl, rfl⟩ := hcs
      exact IsRow.sli (.inr ⟨_, rfl, hl, hm, by simpa using hz, hcell, hwz⟩)
  obtain ⟨l, rfl, hs, hb⟩ := this
  exact ⟨A, cp, l, rfl, hs, hb⟩
set_option maxRecDepth 100000 in
theorem arg_u32 {v : Value} {d : DataW H} {p : List MemPlace} {r : Reach} {b0 : Nat} (hv : Value.okWide Tryd.prog w r b0 51 v) (h : DataW.Trod enc Tryd.prog w base (fun _ => true) held 51 v d p) :
    ∃ x : Nat, v = .int .u32 (x : Int) ∧ x < 4294967296 := by
  obtain ⟨z, rfl, rfl, rfl, w0⟩ := open_int Tryd.underlying51 hv h
  have := bounds_u32 w0
  exact ⟨z.toNat, by congr 1; omega, by omega⟩
set_option maxRecDepth 100000 in
/-- A word of 32 bits. -/
theorem arg_w32 {v : Value} {d : DataW H} {p : List MemPlace} {r : Reach} {b0 : Nat} (hv : Value.okWide Tryd.prog w r b0 51 v) (h : DataW.Trod enc Tryd.prog w base (fun _ => true) held 51 v d p) :
    ∃ x : BitVec 32, v = .int .u32 (x.toNat : Int) := by
  obtain ⟨x, rfl, hx⟩ := arg_u32 hv h
  refine ⟨BitVec.ofNat 32 x, ?_⟩
  congr 1
  rw [BitVec.toNat_ofNat]
  omega
end
end Go.Proofs.YtpijfghklgmefaaDoor
