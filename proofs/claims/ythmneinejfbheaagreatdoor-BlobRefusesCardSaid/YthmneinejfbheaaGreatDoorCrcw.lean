/-
  From the row's condition on the listed table to the fact that the walks ask of it ('Nt'). No condition of its own.
-/
import Derived.Test.YthmneinejfbheaaGreatDoorKb
import Derived.Test.YthmneinejfbheaaGreatDoorGa
import Derived.Test.YthmneinejfbheaaGreatDoorRows
import Derived.LaidMore
set_option linter.unusedVariables false
namespace Go.Proofs.YthmneinejfbheaaGreatDoor
open Go.RowKit
theorem gNoughtType : (Tryz.prog.globals[1]?).map (·.type) = some 251 := by kernel_rfl
theorem cells_u32 : Tryz.prog.cellsOf 68 = 1 := by kernel_rfl
theorem cells_tab : Tryz.prog.cellsOf 251 = 32 := by kernel_rfl
theorem nt_of_laid {w : World} {rest : List (String × DataW Unit)} (h : laidMet Tryz.prog (("ciborium/crc.nought", Rows.laid_ciborium_crc_nought) :: rest) w) : Nt w :=
 Lib.tabIs_of_head (k := .u32) (zs := nt) gNought gNoughtType Tryz.underlying251 Tryz.underlying68 cells_u32 cells_tab h
end Go.Proofs.YthmneinejfbheaaGreatDoor
