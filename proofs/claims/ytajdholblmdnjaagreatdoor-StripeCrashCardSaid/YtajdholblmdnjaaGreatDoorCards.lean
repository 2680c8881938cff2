/-
  DERIVED. GIVEN WITH THE SEED: THE CARDS: each row of YtajdholblmdnjaaGreatDoorRows.lean that lists a variable, with what it lists TIED to the program's text (the seventh form; the later family's looks); each row that meets fmt, with fmt's text TOLD by the authors' own Lean function (tested against real Go, not proved from fmt's source: count such statements apart). THE CARD IS WHAT COUNTS. Prove the row's statement (the work); the ties are given (YtajdholblmdnjaaGreatDoorTie.lean); close each card by the builder's one call (the guide's Derived/Test/ToyasCard.lean, 'card_holds'). Laid BY PROGRAM, IN A SANDBOX (cutbox-door.mjs). By AI agents, Wed Nov 11 2026. No macro, syntax, notation, axiom, sorry.
-/
import Derived.Test.YtajdholblmdnjaaGreatDoorRows
import GoSem.ClaimSeven
namespace Go.Proofs.YtajdholblmdnjaaGreatDoor
namespace Rows

/-- THE TIED CARD OF 'ciboriumlaw13.StripeBack'. -/
def stripeBackCard : Claim7 := { stood := { row := stripeBackRow, standIns := [], harness := (true, "96d5e0f554929f2dd65eabc02f524dec601c122698dc932d08f443df12f4e8ce"), looks := true }, kinds := [], alts := [], laidByText := true, laidKinds := [.data], laidTests := true, laidLooks := .later }
def StripeBackCardSaid : Prop := Claim7.holds Tryz.pinned (.plain (OpenSpec.ofChange stripeBackSpec)) stripeBackCard

/-- THE TIED CARD OF 'ciboriumlaw13.StripeMends'. -/
def stripeMendsCard : Claim7 := { stood := { row := stripeMendsRow, standIns := [], harness := (true, "96d5e0f554929f2dd65eabc02f524dec601c122698dc932d08f443df12f4e8ce"), looks := true }, kinds := [], alts := [], laidByText := true, laidKinds := [.data], laidTests := true, laidLooks := .later }
def StripeMendsCardSaid : Prop := Claim7.holds Tryz.pinned (.plain (OpenSpec.ofChange stripeMendsSpec)) stripeMendsCard

/-- THE TIED CARD OF 'ciboriumlaw13.StripeCrash'. -/
def stripeCrashCard : Claim7 := { stood := { row := stripeCrashRow, standIns := [], harness := (true, "96d5e0f554929f2dd65eabc02f524dec601c122698dc932d08f443df12f4e8ce"), looks := true }, kinds := [], alts := [], laidByText := true, laidKinds := [.data], laidTests := true, laidLooks := .later }
def StripeCrashCardSaid : Prop := Claim7.holds Tryz.pinned (.plain (OpenSpec.ofChange stripeCrashSpec)) stripeCrashCard

/-- THE TIED CARD OF 'ciboriumlaw13.StripeStale'. -/
def stripeStaleCard : Claim7 := { stood := { row := stripeStaleRow, standIns := [], harness := (true, "96d5e0f554929f2dd65eabc02f524dec601c122698dc932d08f443df12f4e8ce"), looks := true }, kinds := [], alts := [], laidByText := true, laidKinds := [.data], laidTests := true, laidLooks := .later }
def StripeStaleCardSaid : Prop := Claim7.holds Tryz.pinned (.plain (OpenSpec.ofChange stripeStaleSpec)) stripeStaleCard

/-- THE SECOND FORM's CARD OF 'ciboriumlaw13.StripeBack'. -/
def stripeBackUptoCard : Claim7 := { stood := { row := stripeBackUptoRow, standIns := [], harness := (true, "96d5e0f554929f2dd65eabc02f524dec601c122698dc932d08f443df12f4e8ce"), looks := true }, kinds := [], alts := [], laidByText := true, laidKinds := [.data], laidTests := true, laidLooks := .later }
def StripeBackUptoCardSaid : Prop := Claim7.holds Tryz.pinned (.plain (OpenSpec.upto stripeBackSpec)) stripeBackUptoCard

/-- THE SECOND FORM's CARD OF 'ciboriumlaw13.StripeMends'. -/
def stripeMendsUptoCard : Claim7 := { stood := { row := stripeMendsUptoRow, standIns := [], harness := (true, "96d5e0f554929f2dd65eabc02f524dec601c122698dc932d08f443df12f4e8ce"), looks := true }, kinds := [], alts := [], laidByText := true, laidKinds := [.data], laidTests := true, laidLooks := .later }
def StripeMendsUptoCardSaid : Prop := Claim7.holds Tryz.pinned (.plain (OpenSpec.upto stripeMendsSpec)) stripeMendsUptoCard

/-- THE SECOND FORM's CARD OF 'ciboriumlaw13.StripeCrash'. -/
def stripeCrashUptoCard : Claim7 := { stood := { row := stripeCrashUptoRow, standIns := [], harness := (true, "96d5e0f554929f2dd65eabc02f524dec601c122698dc932d08f443df12f4e8ce"), looks := true }, kinds := [], alts := [], laidByText := true, laidKinds := [.data], laidTests := true, laidLooks := .later }
def StripeCrashUptoCardSaid : Prop := Claim7.holds Tryz.pinned (.plain (OpenSpec.upto stripeCrashSpec)) stripeCrashUptoCard

/-- THE SECOND FORM's CARD OF 'ciboriumlaw13.StripeStale'. -/
def stripeStaleUptoCard : Claim7 := { stood := { row := stripeStaleUptoRow, standIns := [], harness := (true, "96d5e0f554929f2dd65eabc02f524dec601c122698dc932d08f443df12f4e8ce"), looks := true }, kinds := [], alts := [], laidByText := true, laidKinds := [.data], laidTests := true, laidLooks := .later }
def StripeStaleUptoCardSaid : Prop := Claim7.holds Tryz.pinned (.plain (OpenSpec.upto stripeStaleSpec)) stripeStaleUptoCard
end Rows
end Go.Proofs.YtajdholblmdnjaaGreatDoor
