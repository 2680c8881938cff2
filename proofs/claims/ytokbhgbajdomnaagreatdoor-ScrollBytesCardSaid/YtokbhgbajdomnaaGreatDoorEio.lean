/-
  Scrolls as arguments: what they read as. No condition of its own.
-/
import Derived.Test.YtokbhgbajdomnaaGreatDoorEhp
set_option linter.unusedVariables false
set_option maxRecDepth 100000
namespace Go.Proofs.YtokbhgbajdomnaaGreatDoor
open Go.ChangeShapes Go.WideShapes Go.ChangeAt Go.RowKit Go.Proofs Go.Deep
theorem cells_sc16 : Tryz.prog.cellsOf 38 = 4 := by kernel_rfl
section
variable {H : Type} {enc : TypeId × Value → H} {w : World} {base : Nat} {held : Bool} {fuel : Nat}
theorem arg_scroll {v : Value} {d : DataW H} {p : List MemPlace} {r : Reach} {b0 : Nat} (hv : Value.okWide Tryz.prog w r b0 38 v) (h : DataW.Trod enc Tryz.prog w base (fun _ => true) held 38 v d p) :
  ∃ a g n z : Int, v = .agg #[.int .i64 a, .int .u64 g, .int .i64 n, .int .i64 z] := by
 obtain ⟨c0, c1, c2, c3, y0, y1, y2, y3, m, rfl, rfl, rfl, hy0, hy1, hy2, hy3⟩ := Go.Joins.open_agg4 Tryz.underlying38 (by kernel_rfl) cells_sc16 hv h
 obtain ⟨x, e0, _, wx⟩ := DataW.trod_int Tryz.underlying3 hy0
 obtain ⟨y, e1, _, wy⟩ := DataW.trod_int Tryz.underlying36 hy1
 obtain ⟨z, e2, _, wz⟩ := DataW.trod_int Tryz.underlying3 hy2
 obtain ⟨u, e3, _, wu⟩ := DataW.trod_int Tryz.underlying3 hy3
 injection e0 with e0
 injection e1 with e1
 injection e2 with e2
 injection e3 with e3
 subst e0 e1 e2 e3
 exact ⟨x, y, z, u, rfl⟩
end
end Go.Proofs.YtokbhgbajdomnaaGreatDoor
