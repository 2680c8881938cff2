/-
  DERIVED. GIVEN WITH THE SEED: THE CARDS: each row of YtokbhgbajdomnaaGreatDoorRows.lean that lists a variable, with what it lists TIED to the program's text (the seventh form; the later family's looks); each row that meets fmt, with fmt's text TOLD by the authors' own Lean function (tested against real Go, not proved from fmt's source: count such statements apart). THE CARD IS WHAT COUNTS. Prove the row's statement (the work); the ties are given (YtokbhgbajdomnaaGreatDoorTie.lean); close each card by the builder's one call (the guide's Derived/Test/ToyasCard.lean, 'card_holds'). Laid BY PROGRAM, IN A SANDBOX (cutbox-door.mjs). By AI agents, Wed Nov 11 2026. No macro, syntax, notation, axiom, sorry.
-/
import Derived.Test.YtokbhgbajdomnaaGreatDoorRows
import GoSem.ClaimSeven
namespace Go.Proofs.YtokbhgbajdomnaaGreatDoor
namespace Rows

/-- THE TIED CARD OF 'ciboriumlaw16.ScrollPlays'. -/
def scrollPlaysCard : Claim7 := { stood := { row := scrollPlaysRow, standIns := [], harness := (true, "d1f1abdfbe0119e632f04c3615d5d18ee5d8f478f0ba4f47980c86f03ab1aa92"), looks := false }, kinds := [], alts := [], laidByText := true, laidKinds := [.data, .data], laidTests := true, laidLooks := .later }
def ScrollPlaysCardSaid : Prop := Claim7.holds Tryz.pinned (.plain (OpenSpec.ofChange scrollPlaysSpec)) scrollPlaysCard

/-- THE TIED CARD OF 'ciboriumlaw16.ScrollBack'. -/
def scrollBackCard : Claim7 := { stood := { row := scrollBackRow, standIns := [], harness := (true, "d1f1abdfbe0119e632f04c3615d5d18ee5d8f478f0ba4f47980c86f03ab1aa92"), looks := false }, kinds := [], alts := [], laidByText := true, laidKinds := [.data, .data], laidTests := true, laidLooks := .later }
def ScrollBackCardSaid : Prop := Claim7.holds Tryz.pinned (.plain (OpenSpec.ofChange scrollBackSpec)) scrollBackCard

/-- THE TIED CARD OF 'ciboriumlaw16.ScrollLost'. -/
def scrollLostCard : Claim7 := { stood := { row := scrollLostRow, standIns := [], harness := (true, "d1f1abdfbe0119e632f04c3615d5d18ee5d8f478f0ba4f47980c86f03ab1aa92"), looks := false }, kinds := [], alts := [], laidByText := true, laidKinds := [.data, .data], laidTests := true, laidLooks := .later }
def ScrollLostCardSaid : Prop := Claim7.holds Tryz.pinned (.plain (OpenSpec.ofChange scrollLostSpec)) scrollLostCard

/-- THE TIED CARD OF 'ciboriumlaw16.ScrollBytes'. -/
def scrollBytesCard : Claim7 := { stood := { row := scrollBytesRow, standIns := [], harness := (true, "d1f1abdfbe0119e632f04c3615d5d18ee5d8f478f0ba4f47980c86f03ab1aa92"), looks := false }, kinds := [], alts := [], laidByText := true, laidKinds := [.data, .data], laidTests := true, laidLooks := .later }
def ScrollBytesCardSaid : Prop := Claim7.holds Tryz.pinned (.plain (OpenSpec.ofChange scrollBytesSpec)) scrollBytesCard

/-- THE TIED CARD OF 'ciboriumlaw16.ScrollCounts'. -/
def scrollCountsCard : Claim7 := { stood := { row := scrollCountsRow, standIns := [], harness := (true, "d1f1abdfbe0119e632f04c3615d5d18ee5d8f478f0ba4f47980c86f03ab1aa92"), looks := false }, kinds := [], alts := [], laidByText := true, laidKinds := [.data, .data], laidTests := true, laidLooks := .later }
def ScrollCountsCardSaid : Prop := Claim7.holds Tryz.pinned (.plain (OpenSpec.ofChange scrollCountsSpec)) scrollCountsCard

/-- THE SECOND FORM's CARD OF 'ciboriumlaw16.ScrollPlays'. -/
def scrollPlaysUptoCard : Claim7 := { stood := { row := scrollPlaysUptoRow, standIns := [], harness := (true, "d1f1abdfbe0119e632f04c3615d5d18ee5d8f478f0ba4f47980c86f03ab1aa92"), looks := false }, kinds := [], alts := [], laidByText := true, laidKinds := [.data, .data], laidTests := true, laidLooks := .later }
def ScrollPlaysUptoCardSaid : Prop := Claim7.holds Tryz.pinned (.plain (OpenSpec.upto scrollPlaysSpec)) scrollPlaysUptoCard

/-- THE SECOND FORM's CARD OF 'ciboriumlaw16.ScrollBack'. -/
def scrollBackUptoCard : Claim7 := { stood := { row := scrollBackUptoRow, standIns := [], harness := (true, "d1f1abdfbe0119e632f04c3615d5d18ee5d8f478f0ba4f47980c86f03ab1aa92"), looks := false }, kinds := [], alts := [], laidByText := true, laidKinds := [.data, .data], laidTests := true, laidLooks := .later }
def ScrollBackUptoCardSaid : Prop := Claim7.holds Tryz.pinned (.plain (OpenSpec.upto scrollBackSpec)) scrollBackUptoCard

/-- THE SECOND FORM's CARD OF 'ciboriumlaw16.ScrollLost'. -/
def scrollLostUptoCard : Claim7 := { stood := { row := scrollLostUptoRow, standIns := [], harness := (true, "d1f1abdfbe0119e632f04c3615d5d18ee5d8f478f0ba4f47980c86f03ab1aa92"), looks := false }, kinds := [], alts := [], laidByText := true, laidKinds := [.data, .data], laidTests := true, laidLooks := .later }
def ScrollLostUptoCardSaid : Prop := Claim7.holds Tryz.pinned (.plain (OpenSpec.upto scrollLostSpec)) scrollLostUptoCard

/-- THE SECOND FORM's CARD OF 'ciboriumlaw16.ScrollBytes'. -/
def scrollBytesUptoCard : Claim7 := { stood := { row := scrollBytesUptoRow, standIns := [], harness := (true, "d1f1abdfbe0119e632f04c3615d5d18ee5d8f478f0ba4f47980c86f03ab1aa92"), looks := false }, kinds := [], alts := [], laidByText := true, laidKinds := [.data, .data], laidTests := true, laidLooks := .later }
def ScrollBytesUptoCardSaid : Prop := Claim7.holds Tryz.pinned (.plain (OpenSpec.upto scrollBytesSpec)) scrollBytesUptoCard

/-- THE SECOND FORM's CARD OF 'ciboriumlaw16.ScrollCounts'. -/
def scrollCountsUptoCard : Claim7 := { stood := { row := scrollCountsUptoRow, standIns := [], harness := (true, "d1f1abdfbe0119e632f04c3615d5d18ee5d8f478f0ba4f47980c86f03ab1aa92"), looks := false }, kinds := [], alts := [], laidByText := true, laidKinds := [.data, .data], laidTests := true, laidLooks := .later }
def ScrollCountsUptoCardSaid : Prop := Claim7.holds Tryz.pinned (.plain (OpenSpec.upto scrollCountsSpec)) scrollCountsUptoCard
end Rows
end Go.Proofs.YtokbhgbajdomnaaGreatDoor
