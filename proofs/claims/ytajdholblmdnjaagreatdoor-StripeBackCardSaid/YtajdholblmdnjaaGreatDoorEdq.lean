/-
  Geometries and 64-bit words as arguments: what they read as. No condition.
-/
import Derived.Test.YtajdholblmdnjaaGreatDoorOpi
import Derived.Lib.SmallJoins
set_option linter.unusedVariables false
set_option maxRecDepth 100000
namespace Go.Proofs.YtajdholblmdnjaaGreatDoor
open Go.ChangeShapes Go.WideShapes Go.ChangeAt Go.RowKit Go.Proofs Go.Deep
theorem cells_geo : Tryz.prog.cellsOf 23 = 3 := by kernel_rfl
section
variable {H : Type} {enc : TypeId × Value → H} {w : World} {base : Nat} {held : Bool} {fuel : Nat}
theorem arg_geo {v : Value} {d : DataW H} {p : List MemPlace} {r : Reach} {b0 : Nat} (hv : Value.okWide Tryz.prog w r b0 23 v) (h : DataW.Trod enc Tryz.prog w base (fun _ => true) held 23 v d p) :
  ∃ k m s : Int, v = .agg #[.int .i64 k, .int .i64 m, .int .i64 s] ∧ (-9223372036854775808 ≤ k ∧ k < 9223372036854775808) ∧ (-9223372036854775808 ≤ m ∧ m < 9223372036854775808) ∧ (-9223372036854775808 ≤ s ∧ s < 9223372036854775808) := by
 obtain ⟨c0, c1, c2, y0, y1, y2, m, rfl, rfl, rfl, hy0, hy1, hy2⟩ := Go.Joins.open_agg3 Tryz.underlying23 (by kernel_rfl) cells_geo hv h
 obtain ⟨x, e0, _, wx⟩ := DataW.trod_int Tryz.underlying3 hy0
 obtain ⟨y, e1, _, wy⟩ := DataW.trod_int Tryz.underlying3 hy1
 obtain ⟨z, e2, _, wz⟩ := DataW.trod_int Tryz.underlying3 hy2
 injection e0 with e0
 injection e1 with e1
 injection e2 with e2
 subst e0 e1 e2
 exact ⟨x, y, z, rfl, by have := bounds_i64 wx; omega, by have := bounds_i64 wy; omega, by have := bounds_i64 wz; omega⟩
theorem arg_u64d {v : Value} {d : DataW H} {p : List MemPlace} {r : Reach} {b0 : Nat} (hv : Value.okWide Tryz.prog w r b0 25 v) (h : DataW.Trod enc Tryz.prog w base (fun _ => true) held 25 v d p) :
  ∃ x : Nat, v = .int .u64 (x : Int) ∧ x < 18446744073709551616 := by
 obtain ⟨z, rfl, rfl, rfl, w0⟩ := open_int Tryz.underlying25 hv h
 have := bounds_u64 w0
 exact ⟨z.toNat, by congr 1; omega, by omega⟩
end
end Go.Proofs.YtajdholblmdnjaaGreatDoor
