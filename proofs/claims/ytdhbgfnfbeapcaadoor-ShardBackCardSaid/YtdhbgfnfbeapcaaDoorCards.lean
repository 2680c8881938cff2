/-
  DERIVED. GIVEN WITH THE SEED: THE CARDS: each row of YtdhbgfnfbeapcaaDoorRows.lean that lists a variable, with what it lists TIED to the program's text (the seventh form; the later family's looks); each row that meets fmt, with fmt's text TOLD by the authors' own Lean function (tested against real Go, not proved from fmt's source: count such statements apart). THE CARD IS WHAT COUNTS. Prove the row's statement (the work); the ties are given (YtdhbgfnfbeapcaaDoorTie.lean); close each card by the builder's one call (the guide's Derived/Test/ToyasCard.lean, 'card_holds'). Laid BY PROGRAM, IN A SANDBOX (cutbox-door.mjs). By AI agents, Wed Nov 11 2026. No macro, syntax, notation, axiom, sorry.
-/
import Derived.Test.YtdhbgfnfbeapcaaDoorRows
import GoSem.ClaimSeven
namespace Go.Proofs.YtdhbgfnfbeapcaaDoor
namespace Rows

/-- THE TIED CARD OF 'ciboriumlaw11.ShardTells'. -/
def shardTellsCard : Claim7 := { stood := { row := shardTellsRow, standIns := [], harness := (true, "04f0054249679de5bef5023b5fe3ab620aa3ae5deb9a4bebb1b24cbca3a6e9e6"), looks := false }, kinds := [], alts := [], laidByText := true, laidKinds := [.data], laidTests := true, laidLooks := .later }
def ShardTellsCardSaid : Prop := Claim7.holds Tryd.pinned (.plain (OpenSpec.ofChange shardTellsSpec)) shardTellsCard

/-- THE TIED CARD OF 'ciboriumlaw11.ShardBack'. -/
def shardBackCard : Claim7 := { stood := { row := shardBackRow, standIns := [], harness := (true, "04f0054249679de5bef5023b5fe3ab620aa3ae5deb9a4bebb1b24cbca3a6e9e6"), looks := false }, kinds := [], alts := [], laidByText := true, laidKinds := [.data], laidTests := true, laidLooks := .later }
def ShardBackCardSaid : Prop := Claim7.holds Tryd.pinned (.plain (OpenSpec.ofChange shardBackSpec)) shardBackCard

/-- THE TIED CARD OF 'ciboriumlaw11.ShardBursts'. -/
def shardBurstsCard : Claim7 := { stood := { row := shardBurstsRow, standIns := [], harness := (true, "04f0054249679de5bef5023b5fe3ab620aa3ae5deb9a4bebb1b24cbca3a6e9e6"), looks := false }, kinds := [], alts := [], laidByText := true, laidKinds := [.data], laidTests := true, laidLooks := .later }
def ShardBurstsCardSaid : Prop := Claim7.holds Tryd.pinned (.plain (OpenSpec.ofChange shardBurstsSpec)) shardBurstsCard

/-- THE TIED CARD OF 'ciboriumlaw11.ShardGens'. -/
def shardGensCard : Claim7 := { stood := { row := shardGensRow, standIns := [], harness := (true, "04f0054249679de5bef5023b5fe3ab620aa3ae5deb9a4bebb1b24cbca3a6e9e6"), looks := false }, kinds := [], alts := [], laidByText := true, laidKinds := [.data], laidTests := true, laidLooks := .later }
def ShardGensCardSaid : Prop := Claim7.holds Tryd.pinned (.plain (OpenSpec.ofChange shardGensSpec)) shardGensCard

/-- THE SECOND FORM's CARD OF 'ciboriumlaw11.ShardTells'. -/
def shardTellsUptoCard : Claim7 := { stood := { row := shardTellsUptoRow, standIns := [], harness := (true, "04f0054249679de5bef5023b5fe3ab620aa3ae5deb9a4bebb1b24cbca3a6e9e6"), looks := false }, kinds := [], alts := [], laidByText := true, laidKinds := [.data], laidTests := true, laidLooks := .later }
def ShardTellsUptoCardSaid : Prop := Claim7.holds Tryd.pinned (.plain (OpenSpec.upto shardTellsSpec)) shardTellsUptoCard

/-- THE SECOND FORM's CARD OF 'ciboriumlaw11.ShardBack'. -/
def shardBackUptoCard : Claim7 := { stood := { row := shardBackUptoRow, standIns := [], harness := (true, "04f0054249679de5bef5023b5fe3ab620aa3ae5deb9a4bebb1b24cbca3a6e9e6"), looks := false }, kinds := [], alts := [], laidByText := true, laidKinds := [.data], laidTests := true, laidLooks := .later }
def ShardBackUptoCardSaid : Prop := Claim7.holds Tryd.pinned (.plain (OpenSpec.upto shardBackSpec)) shardBackUptoCard

/-- THE SECOND FORM's CARD OF 'ciboriumlaw11.ShardBursts'. -/
def shardBurstsUptoCard : Claim7 := { stood := { row := shardBurstsUptoRow, standIns := [], harness := (true, "04f0054249679de5bef5023b5fe3ab620aa3ae5deb9a4bebb1b24cbca3a6e9e6"), looks := false }, kinds := [], alts := [], laidByText := true, laidKinds := [.data], laidTests := true, laidLooks := .later }
def ShardBurstsUptoCardSaid : Prop := Claim7.holds Tryd.pinned (.plain (OpenSpec.upto shardBurstsSpec)) shardBurstsUptoCard

/-- THE SECOND FORM's CARD OF 'ciboriumlaw11.ShardGens'. -/
def shardGensUptoCard : Claim7 := { stood := { row := shardGensUptoRow, standIns := [], harness := (true, "04f0054249679de5bef5023b5fe3ab620aa3ae5deb9a4bebb1b24cbca3a6e9e6"), looks := false }, kinds := [], alts := [], laidByText := true, laidKinds := [.data], laidTests := true, laidLooks := .later }
def ShardGensUptoCardSaid : Prop := Claim7.holds Tryd.pinned (.plain (OpenSpec.upto shardGensSpec)) shardGensUptoCard
end Rows
end Go.Proofs.YtdhbgfnfbeapcaaDoor
