/-
  Arguments as they are read: bytes, integers, bools. No condition.
-/
import Derived.Test.YtokbhgbajdomnaaGreatDoorGa
import Derived.ProofKit
import Derived.OpenShut
import Derived.ChangeOld
import Derived.Deep.Matrix
import Derived.Deep.Grids
set_option linter.unusedVariables false
set_option maxRecDepth 100000
namespace Go.Proofs.YtokbhgbajdomnaaGreatDoor
open Go.ChangeShapes Go.WideShapes Go.ChangeAt Go.RowKit Go.Proofs Go.Deep
section
variable {H : Type} {enc : TypeId × Value → H} {w : World} {base : Nat} {held : Bool} {fuel : Nat}
theorem arg_u8 {v : Value} {d : DataW H} {p : List MemPlace} {r : Reach} {b0 : Nat} (hv : Value.okWide Tryz.prog w r b0 40 v) (h : DataW.Trod enc Tryz.prog w base (fun _ => true) held 40 v d p) :
  ∃ A cp, ∃ l : List UInt8, v = .slice A l.length cp ∧ Sl w 1 A l.length cp (cells l) := by
 obtain ⟨A, n, cp, rfl⟩ := okWide_slice Tryz.underlying40 hv
 obtain ⟨fuel, hf⟩ := h
 have : ∃ l : List UInt8, Sl w 1 A n cp (cells l) := by
  rcases open_ints Tryz.underlying40 Tryz.underlying5 (by kernel_rfl) hf with ⟨hcs, _⟩ | ⟨x, l, c, zs, hcs, _, hl, hm, hz, _, hcell, hwz⟩
  ·simp [Value.cells] at hcs
   obtain ⟨rfl, rfl, rfl⟩ := hcs
   exact ⟨[], Sl.nil w 1 0 (by decide)⟩
  ·simp [Value.cells] at hcs
   obtain ⟨rfl, rfl, rfl⟩ := hcs
   exact IsRow.sl (.inr ⟨_, rfl, hl, hm, by simpa using hz, hcell, hwz⟩)
 obtain ⟨l, hl⟩ := this
 have := hl.len
 rw [cells_length, Nat.mul_one] at this
 subst this
 exact ⟨A, cp, l, rfl, hl⟩
theorem arg_int {v : Value} {d : DataW H} {p : List MemPlace} {r : Reach} {b0 : Nat} (hv : Value.okWide Tryz.prog w r b0 3 v) (h : DataW.Trod enc Tryz.prog w base (fun _ => true) held 3 v d p) :
  ∃ z : Int, v = .int .i64 z ∧ -9223372036854775808 ≤ z ∧ z < 9223372036854775808 := by
 obtain ⟨z, rfl, rfl, rfl, w0⟩ := open_int Tryz.underlying3 hv h
 exact ⟨z, rfl, by have := bounds_i64 w0; omega⟩
theorem arg_ints {v : Value} {d : DataW H} {p : List MemPlace} {r : Reach} {b0 : Nat} (hv : Value.okWide Tryz.prog w r b0 39 v) (h : DataW.Trod enc Tryz.prog w base (fun _ => true) held 39 v d p) :
  ∃ A cp, ∃ l : List Int, v = .slice A l.length cp ∧ Sl w 1 A l.length cp (icells l) ∧ ∀ z ∈ l, -9223372036854775808 ≤ z ∧ z < 9223372036854775808 := by
 obtain ⟨A, n, cp, rfl⟩ := okWide_slice Tryz.underlying39 hv
 obtain ⟨fuel, hf⟩ := h
 have : ∃ l : List Int, l.length = n ∧ Sl w 1 A n cp (icells l) ∧ ∀ z ∈ l, -9223372036854775808 ≤ z ∧ z < 9223372036854775808 := by
  rcases open_ints Tryz.underlying39 Tryz.underlying3 (by kernel_rfl) hf with ⟨hcs, _⟩ | ⟨x, l, c, zs, hcs, _, hl, hm, hz, _, hcell, hwz⟩
  ·simp [Value.cells] at hcs
   obtain ⟨rfl, rfl, rfl⟩ := hcs
   exact ⟨[], rfl, Sl.nil w 1 0 (by decide), fun z hz => by cases hz⟩
  ·simp [Value.cells] at hcs
   obtain ⟨rfl, rfl, rfl⟩ := hcs
   exact IsRow.sli (.inr ⟨_, rfl, hl, hm, by simpa using hz, hcell, hwz⟩)
 obtain ⟨l, rfl, hs, hb⟩ := this
 exact ⟨A, cp, l, rfl, hs, hb⟩
end
end Go.Proofs.YtokbhgbajdomnaaGreatDoor
