/-
  Contracts of package blob's Count, part, there and below, of a coder that New made and of none; the document's Count. Conditions: bounds.
-/
import Derived.Test.YtokbhgbajdomnaaGreatDoorEha
import Derived.Test.YtokbhgbajdomnaaGreatDoorPb
set_option linter.unusedVariables false
set_option maxRecDepth 20000
set_option maxHeartbeats 1600000
namespace Go.Proofs.YtokbhgbajdomnaaGreatDoor
open Go.RowKit Go.Proofs
theorem step_quo15 {ρ : Operand → Value} {o : Oper} {x y : Operand} {w : World} {a b c : Int} {t u : TypeId} (ho : o.op = .binOp .quo t x y u) (hx : ρ x = .int .i64 a) (hy : ρ y = .int .i64 b) (hb : ¬ b = 0) (hw : IntKind.i64.wrap (a.tdiv b) = c) : (execOp ρ o).run Tryz.prog w = .ok (.value (.int .i64 c)) w := by
 subst hw
 unfold execOp
 simp [ho, hx, hy, hb, go_sem]
/-! Places below 0. -/
/-! Are an array and a coder there? -/
theorem cnnil15 (w : World) : Calls Tryz.prog 84 #[.pointer none] w fun e w' => e = .returned (.int .i64 0) ∧ w' = w := by
 go_enter Tryz.func84, Tryz.ntmps84
 go_wp2_with fail
 go_ret
 exact ⟨rfl, rfl⟩
theorem arnnil15 (w : World) : Calls Tryz.prog 90 #[.pointer none] w fun e w' => e = .returned (.int .i64 0) ∧ w' = w := by
 go_enter Tryz.func90, Tryz.ntmps90
 go_wp2_with fail
 go_ret
 exact ⟨rfl, rfl⟩
section
variable {Rep : World → (Nat → Prop) → Nat → Dv → Prop} {w : World} {S : Nat → Prop} {A C k m F T N : Nat} {xs : List Dv}
end
end Go.Proofs.YtokbhgbajdomnaaGreatDoor
