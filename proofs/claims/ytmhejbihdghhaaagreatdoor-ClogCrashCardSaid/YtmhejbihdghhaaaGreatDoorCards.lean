/-
  DERIVED. GIVEN WITH THE SEED: THE CARDS: each row of YtmhejbihdghhaaaGreatDoorRows.lean that lists a variable, with what it lists TIED to the program's text (the seventh form; the later family's looks); each row that meets fmt, with fmt's text TOLD by the authors' own Lean function (tested against real Go, not proved from fmt's source: count such statements apart). THE CARD IS WHAT COUNTS. Prove the row's statement (the work); the ties are given (YtmhejbihdghhaaaGreatDoorTie.lean); close each card by the builder's one call (the guide's Derived/Test/ToyasCard.lean, 'card_holds'). Laid BY PROGRAM, IN A SANDBOX (cutbox-door.mjs). By AI agents, Wed Nov 11 2026. No macro, syntax, notation, axiom, sorry.
-/
import Derived.Test.YtmhejbihdghhaaaGreatDoorRows
import GoSem.ClaimSeven
namespace Go.Proofs.YtmhejbihdghhaaaGreatDoor
namespace Rows

/-- THE TIED CARD OF 'ciboriumlaw18.ClogPlays'. -/
def clogPlaysCard : Claim7 := { stood := { row := clogPlaysRow, standIns := [], harness := (true, "7a911186111ca34cbeab8bd763cb7546852010e5de031c811a78b3008434807c"), looks := true }, kinds := [], alts := [], laidByText := true, laidKinds := [.data], laidTests := true, laidLooks := .later }
def ClogPlaysCardSaid : Prop := Claim7.holds Tryz.pinned (.plain (OpenSpec.ofChange clogPlaysSpec)) clogPlaysCard

/-- THE TIED CARD OF 'ciboriumlaw18.ClogBack'. -/
def clogBackCard : Claim7 := { stood := { row := clogBackRow, standIns := [], harness := (true, "7a911186111ca34cbeab8bd763cb7546852010e5de031c811a78b3008434807c"), looks := true }, kinds := [], alts := [], laidByText := true, laidKinds := [.data], laidTests := true, laidLooks := .later }
def ClogBackCardSaid : Prop := Claim7.holds Tryz.pinned (.plain (OpenSpec.ofChange clogBackSpec)) clogBackCard

/-- THE TIED CARD OF 'ciboriumlaw18.ClogCrash'. -/
def clogCrashCard : Claim7 := { stood := { row := clogCrashRow, standIns := [], harness := (true, "7a911186111ca34cbeab8bd763cb7546852010e5de031c811a78b3008434807c"), looks := true }, kinds := [], alts := [], laidByText := true, laidKinds := [.data], laidTests := true, laidLooks := .later }
def ClogCrashCardSaid : Prop := Claim7.holds Tryz.pinned (.plain (OpenSpec.ofChange clogCrashSpec)) clogCrashCard

/-- THE TIED CARD OF 'ciboriumlaw18.ClogAnew'. -/
def clogAnewCard : Claim7 := { stood := { row := clogAnewRow, standIns := [], harness := (true, "7a911186111ca34cbeab8bd763cb7546852010e5de031c811a78b3008434807c"), looks := true }, kinds := [], alts := [], laidByText := true, laidKinds := [.data], laidTests := true, laidLooks := .later }
def ClogAnewCardSaid : Prop := Claim7.holds Tryz.pinned (.plain (OpenSpec.ofChange clogAnewSpec)) clogAnewCard

/-- THE TIED CARD OF 'ciboriumlaw18.ClogNil'. -/
def clogNilCard : Claim7 := { stood := { row := clogNilRow, standIns := [], harness := (true, "7a911186111ca34cbeab8bd763cb7546852010e5de031c811a78b3008434807c"), looks := true }, kinds := [], alts := [], laidByText := true, laidKinds := [.data], laidTests := true, laidLooks := .later }
def ClogNilCardSaid : Prop := Claim7.holds Tryz.pinned (.plain (OpenSpec.ofChange clogNilSpec)) clogNilCard

/-- THE SECOND FORM's CARD OF 'ciboriumlaw18.ClogPlays'. -/
def clogPlaysUptoCard : Claim7 := { stood := { row := clogPlaysUptoRow, standIns := [], harness := (true, "7a911186111ca34cbeab8bd763cb7546852010e5de031c811a78b3008434807c"), looks := true }, kinds := [], alts := [], laidByText := true, laidKinds := [.data], laidTests := true, laidLooks := .later }
def ClogPlaysUptoCardSaid : Prop := Claim7.holds Tryz.pinned (.plain (OpenSpec.upto clogPlaysSpec)) clogPlaysUptoCard

/-- THE SECOND FORM's CARD OF 'ciboriumlaw18.ClogBack'. -/
def clogBackUptoCard : Claim7 := { stood := { row := clogBackUptoRow, standIns := [], harness := (true, "7a911186111ca34cbeab8bd763cb7546852010e5de031c811a78b3008434807c"), looks := true }, kinds := [], alts := [], laidByText := true, laidKinds := [.data], laidTests := true, laidLooks := .later }
def ClogBackUptoCardSaid : Prop := Claim7.holds Tryz.pinned (.plain (OpenSpec.upto clogBackSpec)) clogBackUptoCard

/-- THE SECOND FORM's CARD OF 'ciboriumlaw18.ClogCrash'. -/
def clogCrashUptoCard : Claim7 := { stood := { row := clogCrashUptoRow, standIns := [], harness := (true, "7a911186111ca34cbeab8bd763cb7546852010e5de031c811a78b3008434807c"), looks := true }, kinds := [], alts := [], laidByText := true, laidKinds := [.data], laidTests := true, laidLooks := .later }
def ClogCrashUptoCardSaid : Prop := Claim7.holds Tryz.pinned (.plain (OpenSpec.upto clogCrashSpec)) clogCrashUptoCard

/-- THE SECOND FORM's CARD OF 'ciboriumlaw18.ClogAnew'. -/
def clogAnewUptoCard : Claim7 := { stood := { row := clogAnewUptoRow, standIns := [], harness := (true, "7a911186111ca34cbeab8bd763cb7546852010e5de031c811a78b3008434807c"), looks := true }, kinds := [], alts := [], laidByText := true, laidKinds := [.data], laidTests := true, laidLooks := .later }
def ClogAnewUptoCardSaid : Prop := Claim7.holds Tryz.pinned (.plain (OpenSpec.upto clogAnewSpec)) clogAnewUptoCard

/-- THE SECOND FORM's CARD OF 'ciboriumlaw18.ClogNil'. -/
def clogNilUptoCard : Claim7 := { stood := { row := clogNilUptoRow, standIns := [], harness := (true, "7a911186111ca34cbeab8bd763cb7546852010e5de031c811a78b3008434807c"), looks := true }, kinds := [], alts := [], laidByText := true, laidKinds := [.data], laidTests := true, laidLooks := .later }
def ClogNilUptoCardSaid : Prop := Claim7.holds Tryz.pinned (.plain (OpenSpec.upto clogNilSpec)) clogNilUptoCard
end Rows
end Go.Proofs.YtmhejbihdghhaaaGreatDoor
