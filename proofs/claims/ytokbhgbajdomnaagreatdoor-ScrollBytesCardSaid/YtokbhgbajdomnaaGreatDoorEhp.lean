/-
  Blobs and layer 15's bases as arguments: what they read as; from the row's condition on both listed tables to the facts that the walks ask of them. No condition of its own.
-/
import Derived.Test.YtokbhgbajdomnaaGreatDoorOpi
import Derived.Test.YtokbhgbajdomnaaGreatDoorCrcw
import Derived.Test.YtokbhgbajdomnaaGreatDoorEbt
import Derived.Lib.SmallJoins
set_option linter.unusedVariables false
set_option maxRecDepth 100000
namespace Go.Proofs.YtokbhgbajdomnaaGreatDoor
open Go.ChangeShapes Go.WideShapes Go.ChangeAt Go.RowKit Go.Proofs Go.Deep
theorem laid_tail {P : Program} {W : World} {x : String × DataW Unit} {rest : List (String × DataW Unit)} (h : laidMet P (x :: rest) W) : laidMet P rest W := by
 obtain ⟨ps, ⟨g, t, cs, fuel, p, q, _, _, _, _, hr, rfl⟩, hn, ha⟩ := h
 exact ⟨q, hr, (List.nodup_append.1 hn).2.1, fun b off hm => ha b off (List.mem_append.2 (.inr hm))⟩
theorem tie15 {w : World} (h : laidMetH Tryz.prog [("ciborium/crc.nought", Rows.laid_ciborium_crc_nought), ("math/bits.deBruijn64tab", Rows.laid_math_bits_deBruijn64tab)] w) : Nt w ∧ Tz w := by
 rw [MakeChecks.laidMetH_plain _ _ _ (by kernel_rfl)] at h
 exact ⟨nt_of_laid h, tz_of_laid (laid_tail h)⟩
theorem cells_bs15 : Tryz.prog.cellsOf 23 = 4 := by kernel_rfl
section
variable {H : Type} {enc : TypeId × Value → H} {w : World} {base : Nat} {held : Bool} {fuel : Nat}
theorem arg_base {v : Value} {d : DataW H} {p : List MemPlace} {r : Reach} {b0 : Nat} (hv : Value.okWide Tryz.prog w r b0 23 v) (h : DataW.Trod enc Tryz.prog w base (fun _ => true) held 23 v d p) :
  ∃ k m f c : Int, v = .agg #[.int .i64 k, .int .i64 m, .int .i64 f, .int .i64 c] ∧ (-9223372036854775808 ≤ k ∧ k < 9223372036854775808) ∧ (-9223372036854775808 ≤ m ∧ m < 9223372036854775808) := by
 obtain ⟨c0, c1, c2, c3, y0, y1, y2, y3, m, rfl, rfl, rfl, hy0, hy1, hy2, hy3⟩ := Go.Joins.open_agg4 Tryz.underlying23 (by kernel_rfl) cells_bs15 hv h
 obtain ⟨x, e0, _, wx⟩ := DataW.trod_int Tryz.underlying3 hy0
 obtain ⟨y, e1, _, wy⟩ := DataW.trod_int Tryz.underlying3 hy1
 obtain ⟨z, e2, _, wz⟩ := DataW.trod_int Tryz.underlying3 hy2
 obtain ⟨u, e3, _, wu⟩ := DataW.trod_int Tryz.underlying3 hy3
 injection e0 with e0
 injection e1 with e1
 injection e2 with e2
 injection e3 with e3
 subst e0 e1 e2 e3
 exact ⟨x, y, z, u, rfl, by have := bounds_i64 wx; omega, by have := bounds_i64 wy; omega⟩
end
end Go.Proofs.YtokbhgbajdomnaaGreatDoor
