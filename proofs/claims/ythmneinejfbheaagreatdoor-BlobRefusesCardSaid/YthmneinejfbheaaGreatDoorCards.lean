/-
  DERIVED. GIVEN WITH THE SEED: THE CARDS: each row of YthmneinejfbheaaGreatDoorRows.lean that lists a variable, with what it lists TIED to the program's text (the seventh form; the later family's looks); each row that meets fmt, with fmt's text TOLD by the authors' own Lean function (tested against real Go, not proved from fmt's source: count such statements apart). THE CARD IS WHAT COUNTS. Prove the row's statement (the work); the ties are given (YthmneinejfbheaaGreatDoorTie.lean); close each card by the builder's one call (the guide's Derived/Test/ToyasCard.lean, 'card_holds'). Laid BY PROGRAM, IN A SANDBOX (cutbox-door.mjs). By AI agents, Wed Nov 11 2026. No macro, syntax, notation, axiom, sorry.
-/
import Derived.Test.YthmneinejfbheaaGreatDoorRows
import GoSem.ClaimSeven
namespace Go.Proofs.YthmneinejfbheaaGreatDoor
namespace Rows

/-- THE TIED CARD OF 'ciboriumlaw15.BlobCounts'. -/
def blobCountsCard : Claim7 := { stood := { row := blobCountsRow, standIns := [], harness := (true, "27c8c0ed76cd1623448c80d69f16fa3cb0e94bb89f1756c8c94e0cea357c246c"), looks := false }, kinds := [], alts := [], laidByText := true, laidKinds := [.data, .data], laidTests := true, laidLooks := .later }
def BlobCountsCardSaid : Prop := Claim7.holds Tryz.pinned (.plain (OpenSpec.ofChange blobCountsSpec)) blobCountsCard

/-- THE TIED CARD OF 'ciboriumlaw15.BlobBack'. -/
def blobBackCard : Claim7 := { stood := { row := blobBackRow, standIns := [], harness := (true, "27c8c0ed76cd1623448c80d69f16fa3cb0e94bb89f1756c8c94e0cea357c246c"), looks := false }, kinds := [], alts := [], laidByText := true, laidKinds := [.data, .data], laidTests := true, laidLooks := .later }
def BlobBackCardSaid : Prop := Claim7.holds Tryz.pinned (.plain (OpenSpec.ofChange blobBackSpec)) blobBackCard

/-- THE TIED CARD OF 'ciboriumlaw15.BlobRefuses'. -/
def blobRefusesCard : Claim7 := { stood := { row := blobRefusesRow, standIns := [], harness := (true, "27c8c0ed76cd1623448c80d69f16fa3cb0e94bb89f1756c8c94e0cea357c246c"), looks := false }, kinds := [], alts := [], laidByText := true, laidKinds := [.data, .data], laidTests := true, laidLooks := .later }
def BlobRefusesCardSaid : Prop := Claim7.holds Tryz.pinned (.plain (OpenSpec.ofChange blobRefusesSpec)) blobRefusesCard

/-- THE SECOND FORM's CARD OF 'ciboriumlaw15.BlobCounts'. -/
def blobCountsUptoCard : Claim7 := { stood := { row := blobCountsUptoRow, standIns := [], harness := (true, "27c8c0ed76cd1623448c80d69f16fa3cb0e94bb89f1756c8c94e0cea357c246c"), looks := false }, kinds := [], alts := [], laidByText := true, laidKinds := [.data, .data], laidTests := true, laidLooks := .later }
def BlobCountsUptoCardSaid : Prop := Claim7.holds Tryz.pinned (.plain (OpenSpec.upto blobCountsSpec)) blobCountsUptoCard

/-- THE SECOND FORM's CARD OF 'ciboriumlaw15.BlobBack'. -/
def blobBackUptoCard : Claim7 := { stood := { row := blobBackUptoRow, standIns := [], harness := (true, "27c8c0ed76cd1623448c80d69f16fa3cb0e94bb89f1756c8c94e0cea357c246c"), looks := false }, kinds := [], alts := [], laidByText := true, laidKinds := [.data, .data], laidTests := true, laidLooks := .later }
def BlobBackUptoCardSaid : Prop := Claim7.holds Tryz.pinned (.plain (OpenSpec.upto blobBackSpec)) blobBackUptoCard

/-- THE SECOND FORM's CARD OF 'ciboriumlaw15.BlobRefuses'. -/
def blobRefusesUptoCard : Claim7 := { stood := { row := blobRefusesUptoRow, standIns := [], harness := (true, "27c8c0ed76cd1623448c80d69f16fa3cb0e94bb89f1756c8c94e0cea357c246c"), looks := false }, kinds := [], alts := [], laidByText := true, laidKinds := [.data, .data], laidTests := true, laidLooks := .later }
def BlobRefusesUptoCardSaid : Prop := Claim7.holds Tryz.pinned (.plain (OpenSpec.upto blobRefusesSpec)) blobRefusesUptoCard
end Rows
end Go.Proofs.YthmneinejfbheaaGreatDoor
