/-
  Contracts of package blob's Right, and of the document's. Conditions: bounds. (Written by gen_ehd.py.)
-/
import Derived.Test.YtokbhgbajdomnaaGreatDoorEhc
set_option linter.unusedVariables false
set_option maxRecDepth 20000
set_option maxHeartbeats 1600000
namespace Go.Proofs.YtokbhgbajdomnaaGreatDoor
open Go.RowKit Go.Proofs
section
variable {ρ : Operand → Value} {o : Oper} {x y : Operand} {w : World} {a b : Int} {t u : TypeId} {r : Bool}
theorem step_lt15 (ho : o.op = .binOp .lss t x y u) (hx : ρ x = .int .i64 a) (hy : ρ y = .int .i64 b) (hr : decide (a < b) = r) : (execOp ρ o).run Tryz.prog w = .ok (.value (.bool r)) w := by
 subst hr
 unfold execOp
 simp [ho, hx, hy, go_sem]
theorem step_gt15 (ho : o.op = .binOp .gtr t x y u) (hx : ρ x = .int .i64 a) (hy : ρ y = .int .i64 b) (hr : decide (b < a) = r) : (execOp ρ o).run Tryz.prog w = .ok (.value (.bool r)) w := by
 subst hr
 unfold execOp
 simp [ho, hx, hy, go_sem]
theorem step_eq15 (ho : o.op = .binOp .eql t x y u) (hx : ρ x = .int .i64 a) (hy : ρ y = .int .i64 b) (hr : decide (a = b) = r) : (execOp ρ o).run Tryz.prog w = .ok (.value (.bool r)) w := by
 have e : (a == b) = decide (a = b) := rfl
 rw [← e] at hr
 subst hr
 unfold execOp
 simp [ho, hx, hy, go_sem]
theorem step_ne15 (ho : o.op = .binOp .neq t x y u) (hx : ρ x = .int .i64 a) (hy : ρ y = .int .i64 b) (hr : decide (a = b) = !r) : (execOp ρ o).run Tryz.prog w = .ok (.value (.bool r)) w := by
 have e : (a == b) = decide (a = b) := rfl
 rw [← e] at hr
 obtain rfl : r = !(a == b) := by rw [hr, Bool.not_not]
 unfold execOp
 simp [ho, hx, hy, go_sem]
 rfl
end
end Go.Proofs.YtokbhgbajdomnaaGreatDoor
