/-
  DERIVED. GIVEN WITH THE SEED: THE CARDS: each row of YthkflghekgbgcaaDoorRows.lean that lists a variable, with what it lists TIED to the program's text (the seventh form; the later family's looks); each row that meets fmt, with fmt's text TOLD by the authors' own Lean function (tested against real Go, not proved from fmt's source: count such statements apart). THE CARD IS WHAT COUNTS. Prove the row's statement (the work); the ties are given (YthkflghekgbgcaaDoorTie.lean); close each card by the builder's one call (the guide's Derived/Test/ToyasCard.lean, 'card_holds'). Laid BY PROGRAM, IN A SANDBOX (cutbox-door.mjs). By AI agents, Wed Nov 11 2026. No macro, syntax, notation, axiom, sorry.
-/
import Derived.Test.YthkflghekgbgcaaDoorRows
import GoSem.ClaimSeven
namespace Go.Proofs.YthkflghekgbgcaaDoor
namespace Rows

/-- THE TIED CARD OF 'ciboriumlaw12.BitmapPlays'. -/
def bitmapPlaysCard : Claim7 := { stood := { row := bitmapPlaysRow, standIns := [], harness := (true, "7cefcaf99d81659cecb3efc07f2a4f1515379ca9705c801928dca4f076f8cc83"), looks := false }, kinds := [], alts := [], laidByText := true, laidKinds := [.data], laidTests := true, laidLooks := .later }
def BitmapPlaysCardSaid : Prop := Claim7.holds Tryd.pinned (.plain (OpenSpec.ofChange bitmapPlaysSpec)) bitmapPlaysCard

/-- THE TIED CARD OF 'ciboriumlaw12.BitmapRuns'. -/
def bitmapRunsCard : Claim7 := { stood := { row := bitmapRunsRow, standIns := [], harness := (true, "7cefcaf99d81659cecb3efc07f2a4f1515379ca9705c801928dca4f076f8cc83"), looks := false }, kinds := [], alts := [], laidByText := true, laidKinds := [.data], laidTests := true, laidLooks := .later }
def BitmapRunsCardSaid : Prop := Claim7.holds Tryd.pinned (.plain (OpenSpec.ofChange bitmapRunsSpec)) bitmapRunsCard

/-- THE TIED CARD OF 'ciboriumlaw12.BitmapLeast'. -/
def bitmapLeastCard : Claim7 := { stood := { row := bitmapLeastRow, standIns := [], harness := (true, "7cefcaf99d81659cecb3efc07f2a4f1515379ca9705c801928dca4f076f8cc83"), looks := false }, kinds := [], alts := [], laidByText := true, laidKinds := [.data], laidTests := true, laidLooks := .later }
def BitmapLeastCardSaid : Prop := Claim7.holds Tryd.pinned (.plain (OpenSpec.ofChange bitmapLeastSpec)) bitmapLeastCard

/-- THE TIED CARD OF 'ciboriumlaw12.BitmapNil'. -/
def bitmapNilCard : Claim7 := { stood := { row := bitmapNilRow, standIns := [], harness := (true, "7cefcaf99d81659cecb3efc07f2a4f1515379ca9705c801928dca4f076f8cc83"), looks := false }, kinds := [], alts := [], laidByText := true, laidKinds := [.data], laidTests := true, laidLooks := .later }
def BitmapNilCardSaid : Prop := Claim7.holds Tryd.pinned (.plain (OpenSpec.ofChange bitmapNilSpec)) bitmapNilCard

/-- THE SECOND FORM's CARD OF 'ciboriumlaw12.BitmapPlays'. -/
def bitmapPlaysUptoCard : Claim7 := { stood := { row := bitmapPlaysUptoRow, standIns := [], harness := (true, "7cefcaf99d81659cecb3efc07f2a4f1515379ca9705c801928dca4f076f8cc83"), looks := false }, kinds := [], alts := [], laidByText := true, laidKinds := [.data], laidTests := true, laidLooks := .later }
def BitmapPlaysUptoCardSaid : Prop := Claim7.holds Tryd.pinned (.plain (OpenSpec.upto bitmapPlaysSpec)) bitmapPlaysUptoCard

/-- THE SECOND FORM's CARD OF 'ciboriumlaw12.BitmapRuns'. -/
def bitmapRunsUptoCard : Claim7 := { stood := { row := bitmapRunsUptoRow, standIns := [], harness := (true, "7cefcaf99d81659cecb3efc07f2a4f1515379ca9705c801928dca4f076f8cc83"), looks := false }, kinds := [], alts := [], laidByText := true, laidKinds := [.data], laidTests := true, laidLooks := .later }
def BitmapRunsUptoCardSaid : Prop := Claim7.holds Tryd.pinned (.plain (OpenSpec.upto bitmapRunsSpec)) bitmapRunsUptoCard

/-- THE SECOND FORM's CARD OF 'ciboriumlaw12.BitmapLeast'. -/
def bitmapLeastUptoCard : Claim7 := { stood := { row := bitmapLeastUptoRow, standIns := [], harness := (true, "7cefcaf99d81659cecb3efc07f2a4f1515379ca9705c801928dca4f076f8cc83"), looks := false }, kinds := [], alts := [], laidByText := true, laidKinds := [.data], laidTests := true, laidLooks := .later }
def BitmapLeastUptoCardSaid : Prop := Claim7.holds Tryd.pinned (.plain (OpenSpec.upto bitmapLeastSpec)) bitmapLeastUptoCard

/-- THE SECOND FORM's CARD OF 'ciboriumlaw12.BitmapNil'. -/
def bitmapNilUptoCard : Claim7 := { stood := { row := bitmapNilUptoRow, standIns := [], harness := (true, "7cefcaf99d81659cecb3efc07f2a4f1515379ca9705c801928dca4f076f8cc83"), looks := false }, kinds := [], alts := [], laidByText := true, laidKinds := [.data], laidTests := true, laidLooks := .later }
def BitmapNilUptoCardSaid : Prop := Claim7.holds Tryd.pinned (.plain (OpenSpec.upto bitmapNilSpec)) bitmapNilUptoCard
end Rows
end Go.Proofs.YthkflghekgbgcaaDoor
