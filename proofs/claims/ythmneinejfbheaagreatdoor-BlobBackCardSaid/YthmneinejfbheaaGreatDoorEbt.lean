/-
  From the row's condition on the listed table to the fact that the walks ask of it ('Tz'). No condition of its own.
-/
import Derived.Test.YthmneinejfbheaaGreatDoorMa
import Derived.Test.YthmneinejfbheaaGreatDoorRows
import Derived.LaidMore
set_option linter.unusedVariables false
namespace Go.Proofs.YthmneinejfbheaaGreatDoor
open Go.RowKit
theorem gTzType : (Tryz.prog.globals[0]?).map (·.type) = some 170 := by kernel_rfl
theorem cells_u8t : Tryz.prog.cellsOf 5 = 1 := by kernel_rfl
theorem cells_tz : Tryz.prog.cellsOf 170 = 64 := by kernel_rfl
theorem tz_of_laid {w : World} {rest : List (String × DataW Unit)} (h : laidMet Tryz.prog (("math/bits.deBruijn64tab", Rows.laid_math_bits_deBruijn64tab) :: rest) w) : Tz w :=
 Lib.tabIs_of_head (k := .u8) (zs := dbt) gTz gTzType Tryz.underlying170 Tryz.underlying5 cells_u8t cells_tz h
end Go.Proofs.YthmneinejfbheaaGreatDoor
