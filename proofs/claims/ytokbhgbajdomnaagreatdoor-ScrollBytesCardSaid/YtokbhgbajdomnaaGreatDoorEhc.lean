/-
  Contracts of package blob's Refs and Right, and of the document's. Conditions: bounds. (Written by gen_ehc.py.)
-/
import Derived.Test.YtokbhgbajdomnaaGreatDoorEhb
import Derived.Test.YtokbhgbajdomnaaGreatDoorIb
import Derived.Deep.MidRow
set_option linter.unusedVariables false
set_option maxRecDepth 20000
set_option maxHeartbeats 1600000
namespace Go.Proofs.YtokbhgbajdomnaaGreatDoor
open Go.RowKit Go.Proofs
section
variable {w w' : World} {B n c : Nat} {A : Option Addr} {g z : Int}
end
/-! Stripes' names in memory. -/
def r3c (r : Int × Int × Int) : List Value := [.int .u8 r.1, .int .i64 r.2.1, .int .u64 r.2.2]
theorem r3c_one (r : Int × Int × Int) : ∀ v ∈ r3c r, v.oneCell' = true := by
 intro v hv
 simp [r3c] at hv
 rcases hv with rfl | rfl | rfl <;> rfl
/-! The document's names: laid one behind the other. -/
theorem step_refb15 {ρ : Operand → Value} {o : Oper} {a b c : Operand} {w : World} {k p g : Int} (ho : o.op = .build 99 #[(0, a), (1, b), (2, c)]) (h0 : ρ a = .int .u8 k) (h1 : ρ b = .int .i64 p) (h2 : ρ c = .int .u64 g) :
  (execOp ρ o).run Tryz.prog w = .ok (.value (.agg (r3c (k, p, g)).toArray)) w := by
 have hb : Tryz.prog.built 99 [(0, .int .u8 k), (1, .int .i64 p), (2, .int .u64 g)] = some #[.int .u8 k, .int .i64 p, .int .u64 g] := by kernel_rfl
 have h := run_build w 99 #[(0, .int .u8 k), (1, .int .i64 p), (2, .int .u64 g)] _ hb
 unfold execOp
 simp [ho, h0, h1, h2, h, Result.andThen, r3c]
end Go.Proofs.YtokbhgbajdomnaaGreatDoor
