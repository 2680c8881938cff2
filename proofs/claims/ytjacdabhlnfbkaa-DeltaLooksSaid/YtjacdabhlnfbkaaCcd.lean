/-
  CodeSplits returns true, whatever its arguments. No condition.
-/
import Derived.Test.YtjacdabhlnfbkaaCca
namespace Go.Proofs.Ytjacdabhlnfbkaa
open Go.RowKit Go.Proofs
set_option linter.unusedVariables false

/-- What Split makes. -/
def splL (k W : Int) (l : List UInt8) : List (List UInt8) := if ¬ (1 ≤ W ∧ W ≤ 65536) then [] else if k * W < (l.length : Int) then [] else cutL l W.toNat k.toNat
def splX (k W : Int) (l : List UInt8) : Int := if ¬ (1 ≤ W ∧ W ≤ 65536) then 2 else if k * W < (l.length : Int) then 260 else 0
/-- What a call answers that makes rows, and an error's number. -/
def RetRows (rs : List (List UInt8)) (x : Int) (w : World) (e : Ending) (w' : World) : Prop := (∃ A n c, e = .returned (.tuple #[.slice A n c, .int .i64 x]) ∧ Gr w' A n c rs) ∧ Below w.heap.size w w'
/-- What a call answers that makes bytes, and an error's number. -/
def RetByx (l : List UInt8) (x : Int) (w : World) (e : Ending) (w' : World) : Prop := (∃ A n c, e = .returned (.tuple #[.slice A n c, .int .i64 x]) ∧ Sl w' 1 A n c (cells l)) ∧ Below w.heap.size w w'
theorem csplit_all (C k m F T : Nat) (A : Option Addr) (c : Nat) (l : List UInt8) (W : Int) (hW1 : -9223372036854775808 ≤ W) (hW2 : W < 9223372036854775808) (w : World) (h : Cod w C k m F T) (hs : Sl w 1 A l.length c (cells l)) :
    Calls Try.prog 22 #[.pointer (some ⟨C, 0, none⟩), .slice A l.length c, .int .i64 W] w (RetRows (splL (k : Int) W l) (splX (k : Int) W l) w) := by
  refine (split_any C k m F T A l.length c l W hW1 hW2 w h hs).mono ?_; rintro e w' ⟨hb, hR⟩
  rcases hR with ⟨h1, rfl⟩ | ⟨h1, h2, rfl⟩ | ⟨h1, h2, g, rfl, hg⟩
  · rw [splL, if_pos h1, splX, if_pos h1]
    exact ⟨⟨none, 0, 0, rfl, Gr.nil _ 0 (by decide)⟩, hb⟩
  · rw [splL, if_neg (fun hh => hh h1), if_pos h2, splX, if_neg (fun hh => hh h1), if_pos h2]
    exact ⟨⟨none, 0, 0, rfl, Gr.nil _ 0 (by decide)⟩, hb⟩
  · rw [splL, if_neg (fun hh => hh h1), if_neg (by omega), splX, if_neg (fun hh => hh h1), if_neg (by omega), Int.toNat_natCast]
    exact ⟨⟨_, _, _, rfl, hg⟩, hb⟩
instance okJ_dec (rs : List (List UInt8)) (k S : Int) : Decidable (okJ rs k S) := by unfold okJ; infer_instance
/-- What Join makes. -/
def joiL (k S : Int) (rs : List (List UInt8)) : List UInt8 := if okJ rs k S then rs.flatten.take S.toNat else []
def joiX (k S : Int) (rs : List (List UInt8)) : Int := if okJ rs k S then 0 else 2
end Go.Proofs.Ytjacdabhlnfbkaa
