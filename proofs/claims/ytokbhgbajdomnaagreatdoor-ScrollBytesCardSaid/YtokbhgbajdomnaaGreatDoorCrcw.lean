/-
  From the row's condition on the listed table to the fact that the walks ask of it ('Nt'). No condition of its own.
-/
import Derived.Test.YtokbhgbajdomnaaGreatDoorKb
import Derived.Test.YtokbhgbajdomnaaGreatDoorGa
import Derived.Test.YtokbhgbajdomnaaGreatDoorRows
import Derived.LaidMore
set_option linter.unusedVariables false
namespace Go.Proofs.YtokbhgbajdomnaaGreatDoor
open Go.RowKit
theorem gNoughtType : (Tryz.prog.globals[1]?).map (·.type) = some 333 := by kernel_rfl
theorem cells_u32 : Tryz.prog.cellsOf 58 = 1 := by kernel_rfl
theorem cells_tab : Tryz.prog.cellsOf 333 = 32 := by kernel_rfl
theorem nt_of_laid {w : World} {rest : List (String × DataW Unit)} (h : laidMet Tryz.prog (("ciborium/crc.nought", Rows.laid_ciborium_crc_nought) :: rest) w) : Nt w :=
 Lib.tabIs_of_head (k := .u32) (zs := nt) gNought gNoughtType Tryz.underlying333 Tryz.underlying58 cells_u32 cells_tab h
end Go.Proofs.YtokbhgbajdomnaaGreatDoor
