/-
  From the row's condition on the listed table to the fact that the walks ask of it ('Tz'). No condition of its own.
-/
import Derived.Test.YtokbhgbajdomnaaGreatDoorMa
import Derived.Test.YtokbhgbajdomnaaGreatDoorRows
import Derived.LaidMore
set_option linter.unusedVariables false
namespace Go.Proofs.YtokbhgbajdomnaaGreatDoor
open Go.RowKit
theorem gTzType : (Tryz.prog.globals[0]?).map (·.type) = some 192 := by kernel_rfl
theorem cells_u8t : Tryz.prog.cellsOf 5 = 1 := by kernel_rfl
theorem cells_tz : Tryz.prog.cellsOf 192 = 64 := by kernel_rfl
theorem tz_of_laid {w : World} {rest : List (String × DataW Unit)} (h : laidMet Tryz.prog (("math/bits.deBruijn64tab", Rows.laid_math_bits_deBruijn64tab) :: rest) w) : Tz w :=
 Lib.tabIs_of_head (k := .u8) (zs := dbt) gTz gTzType Tryz.underlying192 Tryz.underlying5 cells_u8t cells_tz h
end Go.Proofs.YtokbhgbajdomnaaGreatDoor
