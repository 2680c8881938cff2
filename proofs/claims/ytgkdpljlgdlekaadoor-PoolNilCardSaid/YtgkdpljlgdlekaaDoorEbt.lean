/-
  From the row's condition on the listed table to the fact that the walks ask of it ('Tz'). No condition of its own.
-/
import Derived.Test.YtgkdpljlgdlekaaDoorMa
import Derived.Test.YtgkdpljlgdlekaaDoorRows
import Derived.LaidMore
namespace Go.Proofs.YtgkdpljlgdlekaaDoor
open Go.RowKit

theorem gTzType : (Tryd.prog.globals[0]?).map (·.type) = some 74 := by kernel_rfl
theorem cells_u8t : Tryd.prog.cellsOf 5 = 1 := by kernel_rfl
theorem cells_tz : Tryd.prog.cellsOf 74 = 64 := by kernel_rfl
theorem tz_of_laid {w : World} {rest : List (String × DataW Unit)} (h : laidMet Tryd.prog (("math/bits.deBruijn64tab", Rows.laid_math_bits_deBruijn64tab) :: rest) w) : Tz w :=
  Lib.tabIs_of_head (k := .u8) (zs := dbt) gTz gTzType Tryd.underlying74 Tryd.underlying5 cells_u8t cells_tz h
theorem tz_of_laidH {w : World} (h : laidMetH Tryd.prog [("math/bits.deBruijn64tab", Rows.laid_math_bits_deBruijn64tab)] w) : Tz w := by
  rw [MakeChecks.laidMetH_plain _ _ _ (by kernel_rfl)] at h
  exact tz_of_laid h
end Go.Proofs.YtgkdpljlgdlekaaDoor
