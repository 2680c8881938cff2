/-
  From the row's condition on the listed table to the fact that the walks ask of it ('Nt'). No condition of its own.
-/
import Derived.Test.YtpijfghklgmefaaDoorKb
import Derived.Test.YtpijfghklgmefaaDoorGa
import Derived.Test.YtpijfghklgmefaaDoorRows
import Derived.LaidMore
namespace Go.Proofs.YtpijfghklgmefaaDoor
open Go.RowKit

theorem gNoughtType : (Tryd.prog.globals[0]?).map (·.type) = some 115 := by kernel_rfl
theorem cells_u32 : Tryd.prog.cellsOf 51 = 1 := by kernel_rfl
theorem cells_tab : Tryd.prog.cellsOf 115 = 32 := by kernel_rfl
theorem nt_of_laid {w : World} {rest : List (String × DataW Unit)} (h : laidMet Tryd.prog (("ciborium/crc.nought", Rows.laid_ciborium_crc_nought) :: rest) w) : Nt w :=
  Lib.tabIs_of_head (k := .u32) (zs := nt) gNought gNoughtType Tryd.underlying115 Tryd.underlying51 cells_u32 cells_tab h
theorem nt_of_laidH {w : World} (h : laidMetH Tryd.prog [("ciborium/crc.nought", Rows.laid_ciborium_crc_nought)] w) : Nt w := by
  rw [MakeChecks.laidMetH_plain _ _ _ (by kernel_rfl)] at h
  exact nt_of_laid h

/-- A number of 32 bits that came in, as a word. -/
theorem word_of {z : Int} (h : (Lit.int .u32 z).wf = true) : ∃ c : W32, z = (c.toNat : Int) := by
  have hb := bounds_u32 h
  refine ⟨BitVec.ofNat 32 z.toNat, ?_⟩
  rw [BitVec.toNat_ofNat]
  omega
end Go.Proofs.YtpijfghklgmefaaDoor
