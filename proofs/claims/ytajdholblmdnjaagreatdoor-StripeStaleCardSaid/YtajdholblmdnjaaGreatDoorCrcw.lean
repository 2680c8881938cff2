/-
  From the row's condition on the listed table to the fact that the walks ask of it ('Nt'). No condition of its own.
-/
import Derived.Test.YtajdholblmdnjaaGreatDoorKb
import Derived.Test.YtajdholblmdnjaaGreatDoorGa
import Derived.Test.YtajdholblmdnjaaGreatDoorRows
import Derived.LaidMore
set_option linter.unusedVariables false
namespace Go.Proofs.YtajdholblmdnjaaGreatDoor
open Go.RowKit
theorem gNoughtType : (Tryz.prog.globals[0]?).map (·.type) = some 214 := by kernel_rfl
theorem cells_u32 : Tryz.prog.cellsOf 27 = 1 := by kernel_rfl
theorem cells_tab : Tryz.prog.cellsOf 214 = 32 := by kernel_rfl
theorem nt_of_laid {w : World} {rest : List (String × DataW Unit)} (h : laidMet Tryz.prog (("ciborium/crc.nought", Rows.laid_ciborium_crc_nought) :: rest) w) : Nt w :=
 Lib.tabIs_of_head (k := .u32) (zs := nt) gNought gNoughtType Tryz.underlying214 Tryz.underlying27 cells_u32 cells_tab h
theorem nt_of_laidH {w : World} (h : laidMetH Tryz.prog [("ciborium/crc.nought", Rows.laid_ciborium_crc_nought)] w) : Nt w := by
 rw [MakeChecks.laidMetH_plain _ _ _ (by kernel_rfl)] at h
 exact nt_of_laid h
end Go.Proofs.YtajdholblmdnjaaGreatDoor
