/-
  Contracts of package matrix's rowsOf. No condition.
-/
import Derived.Test.YtccnoflgbopjlaaMdd
namespace Go.Proofs.Ytccnoflgbopjlaa
open Go.RowKit
set_option linter.unusedVariables false

set_option maxRecDepth 20000 in
set_option maxHeartbeats 1600000 in
theorem rowsOf_any (R C : Nat) (A : Option Addr) (N cp : Nat) (l : List UInt8) (h1 : 1 ≤ R) (h2 : R ≤ 255) (h3 : 1 ≤ C) (h4 : C ≤ 255) (hN : N = R * C) (w : World) (h : Sl w 1 A N cp (cells l)) :
    Calls Try.prog 38 #[.agg #[.int .i64 (R : Int), .int .i64 (C : Int), .slice A N cp]] w
      fun e w' => ∃ g, e = .returned (.slice (some ⟨g, 0, none⟩) R R) ∧ w.heap.size ≤ g ∧ Below w.heap.size w w' ∧ ∀ S, (∀ b o, 0 < N → A = some ⟨b, o, none⟩ → ¬ S b) → RowsF w' g R C S (mx C l) := by
  have Hs := Lib.hid h; clear h
  have HN := Lib.hid hN; clear hN
  go_enter Try.func38, Try.ntmps38
  go_wp2_with fail
  have hh := eachRow_any R C A N cp l h1 h2 h3 h4 HN.out (w.alloc (.cells #[.int .i64 (R : Int), .int .i64 (C : Int), .slice A N cp] 24)) (Hs.out.alloc _)
  refine hh.mono ?_; clear hh; rintro e w2 ⟨rfl, hb, hr⟩
  have hbb : Below w.heap.size w w2 := ((Below.refl _ _).alloc (Nat.le_refl _) _).trans (hb.mono (by simp))
  have Hr := Lib.hid hr; clear hr hb
  go_wp2_with fail
  go_ret
  exact ⟨w.heap.size + 1 + 1, rfl, by omega, hbb, by have := Hr.out; simpa using this⟩
end Go.Proofs.Ytccnoflgbopjlaa
