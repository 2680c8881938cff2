/-
  NARROWER THAN 'FOR EVERY INPUT', by the rows' own cells (each row's printed sentence says how): ShardTells: laid · ShardBack: laid · ShardBursts: laid · ShardGens: laid.
  DERIVED. THE GIVEN ROWS OF THIS SEAT. 4 by the template 'for every input the law returns true; each argument reads behind the call as it read before'; 0 by the template 'total and deterministic' (their statements: YtdhbgfnfbeapcaaDoorTotals.lean).
  GIVEN WITH THE SEED: the statements are not yours to turn. If you find one false, say at which input.
  Laid BY PROGRAM, IN A SANDBOX (cutbox-rows.mjs): the forced cells as the released guide's own fill.sh prints them over the translation eb51e346d0aec419… (all of the seat's roots in one cut). By AI agents, Wed Nov 11 2026. No macro, syntax, notation, axiom, sorry.
-/
import Derived.Test.YtdhbgfnfbeapcaaDoorChecked
import GoSem.Claim
import GoSem.ClaimJoined
import GoSem.ClaimMapViews
import Derived.JoinedTies
import Derived.KernelRfl
namespace Go.Proofs.YtdhbgfnfbeapcaaDoor
/- THE CELL 'sum', in the pinned program and in every row, IS THE sha256 OF THE DUMP (.gsa) THAT YtdhbgfnfbeapcaaDoorProg.lean LOADS. Nothing in Lean hashes anything: it is a label: what it is worth is what the hold of that sum in a sandbox is worth. -/
noncomputable def Tryd.pinned : Pinned := { name := "ytdhbgfnfbeapcaadoor", sum := "eb51e346d0aec419fa4a09bc4c6e2498a05781350e10e1b6b16cbb4b4811f04e", checked := Tryd.checked }
namespace Rows
def none {H : Type} : Left H := { results := [], args := [] }

/- WHAT THE LISTED PACKAGE-LEVEL VARIABLES READ AS WHEN THE CALL BEGINS. Each datum BY PROGRAM (the guide's laid-datum.mjs) off the statement by which the dump's own 'gosem.cut.vars' lays the variable. In a bare row this is a premise. The card (YtdhbgfnfbeapcaaDoorCards.lean) ties it to the program's text. -/
def laid_ciborium_crc_nought {H : Type} : DataW H := .agg [.lit (.int .u32 4067132163), .lit (.int .u32 3778769143), .lit (.int .u32 3348797215), .lit (.int .u32 2329499855), .lit (.int .u32 274646895), .lit (.int .u32 549293790), .lit (.int .u32 1098587580), .lit (.int .u32 2197175160), .lit (.int .u32 1), .lit (.int .u32 2), .lit (.int .u32 4), .lit (.int .u32 8), .lit (.int .u32 16), .lit (.int .u32 32), .lit (.int .u32 64), .lit (.int .u32 128), .lit (.int .u32 256), .lit (.int .u32 512), .lit (.int .u32 1024), .lit (.int .u32 2048), .lit (.int .u32 4096), .lit (.int .u32 8192), .lit (.int .u32 16384), .lit (.int .u32 32768), .lit (.int .u32 65536), .lit (.int .u32 131072), .lit (.int .u32 262144), .lit (.int .u32 524288), .lit (.int .u32 1048576), .lit (.int .u32 2097152), .lit (.int .u32 4194304), .lit (.int .u32 8388608)]

/-- 'ciboriumlaw11.ShardTells': WHATEVER THE INPUT: true; the input reads as it did. -/
def shardTellsSpec : ChangeSpec := { name := "shardTells", fn := fun _ => fun
  | [d1, d2, d3, d4] => { results := [.lit (.bool true)], args := [d1, d2, d3, d4] }
  | _ => none }
def shardTellsRow : OpenClaim := { program := "ytdhbgfnfbeapcaadoor", sum := "eb51e346d0aec419fa4a09bc4c6e2498a05781350e10e1b6b16cbb4b4811f04e", func := "ciborium/ciboriumlaw11.ShardTells", spec := "shardTells", unfollowed := true, recurses := true, named := ["ciborium/crc.nought"], apart := false, laid := [("ciborium/crc.nought", laid_ciborium_crc_nought)] }
def ShardTellsSaid : Prop := shardTellsRow.holds Tryd.pinned (OpenSpec.ofChange shardTellsSpec)

/-- ITS FALSE NEIGHBOUR: 'it returns false'. Refute it at one input. -/
def shardTellsWrong : ChangeSpec := { name := "shardTells", fn := fun _ => fun
  | [d1, d2, d3, d4] => { results := [.lit (.bool false)], args := [d1, d2, d3, d4] }
  | _ => none }
def ShardTellsWrongFalsely : Prop := shardTellsRow.holds Tryd.pinned (OpenSpec.ofChange shardTellsWrong)

/-- 'ciboriumlaw11.ShardBack': WHATEVER THE INPUT: true; the input reads as it did. -/
def shardBackSpec : ChangeSpec := { name := "shardBack", fn := fun _ => fun
  | [d1, d2] => { results := [.lit (.bool true)], args := [d1, d2] }
  | _ => none }
def shardBackRow : OpenClaim := { program := "ytdhbgfnfbeapcaadoor", sum := "eb51e346d0aec419fa4a09bc4c6e2498a05781350e10e1b6b16cbb4b4811f04e", func := "ciborium/ciboriumlaw11.ShardBack", spec := "shardBack", unfollowed := true, recurses := true, named := ["ciborium/crc.nought"], apart := false, laid := [("ciborium/crc.nought", laid_ciborium_crc_nought)] }
def ShardBackSaid : Prop := shardBackRow.holds Tryd.pinned (OpenSpec.ofChange shardBackSpec)

/-- ITS FALSE NEIGHBOUR: 'it returns false'. Refute it at one input. -/
def shardBackWrong : ChangeSpec := { name := "shardBack", fn := fun _ => fun
  | [d1, d2] => { results := [.lit (.bool false)], args := [d1, d2] }
  | _ => none }
def ShardBackWrongFalsely : Prop := shardBackRow.holds Tryd.pinned (OpenSpec.ofChange shardBackWrong)

/-- 'ciboriumlaw11.ShardBursts': WHATEVER THE INPUT: true; the input reads as it did. -/
def shardBurstsSpec : ChangeSpec := { name := "shardBursts", fn := fun _ => fun
  | [d1, d2, d3] => { results := [.lit (.bool true)], args := [d1, d2, d3] }
  | _ => none }
def shardBurstsRow : OpenClaim := { program := "ytdhbgfnfbeapcaadoor", sum := "eb51e346d0aec419fa4a09bc4c6e2498a05781350e10e1b6b16cbb4b4811f04e", func := "ciborium/ciboriumlaw11.ShardBursts", spec := "shardBursts", unfollowed := true, recurses := true, named := ["ciborium/crc.nought"], apart := false, laid := [("ciborium/crc.nought", laid_ciborium_crc_nought)] }
def ShardBurstsSaid : Prop := shardBurstsRow.holds Tryd.pinned (OpenSpec.ofChange shardBurstsSpec)

/-- ITS FALSE NEIGHBOUR: 'it returns false'. Refute it at one input. -/
def shardBurstsWrong : ChangeSpec := { name := "shardBursts", fn := fun _ => fun
  | [d1, d2, d3] => { results := [.lit (.bool false)], args := [d1, d2, d3] }
  | _ => none }
def ShardBurstsWrongFalsely : Prop := shardBurstsRow.holds Tryd.pinned (OpenSpec.ofChange shardBurstsWrong)

/-- 'ciboriumlaw11.ShardGens': WHATEVER THE INPUT: true; the input reads as it did. -/
def shardGensSpec : ChangeSpec := { name := "shardGens", fn := fun _ => fun
  | [d1, d2, d3, d4] => { results := [.lit (.bool true)], args := [d1, d2, d3, d4] }
  | _ => none }
def shardGensRow : OpenClaim := { program := "ytdhbgfnfbeapcaadoor", sum := "eb51e346d0aec419fa4a09bc4c6e2498a05781350e10e1b6b16cbb4b4811f04e", func := "ciborium/ciboriumlaw11.ShardGens", spec := "shardGens", unfollowed := true, recurses := true, named := ["ciborium/crc.nought"], apart := false, laid := [("ciborium/crc.nought", laid_ciborium_crc_nought)] }
def ShardGensSaid : Prop := shardGensRow.holds Tryd.pinned (OpenSpec.ofChange shardGensSpec)

/-- ITS FALSE NEIGHBOUR: 'it returns false'. Refute it at one input. -/
def shardGensWrong : ChangeSpec := { name := "shardGens", fn := fun _ => fun
  | [d1, d2, d3, d4] => { results := [.lit (.bool false)], args := [d1, d2, d3, d4] }
  | _ => none }
def ShardGensWrongFalsely : Prop := shardGensRow.holds Tryd.pinned (OpenSpec.ofChange shardGensWrong)

/- THE SECOND FORM. 'bulk': how many values and letters a reading holds, each counted each time it is reached (what is shared counts as often as it is met; a slice's spare places count too). A statement '..UptoSaid' is the law's where the arguments, and the package variables that the reading takes, are together of bulk at most 1048576: NARROWER than '..Said'. Prove '..Said' where nothing that the law and all that it calls make is longer than what came in: it says more and counts as full. Else prove '..UptoSaid'. A law counts once. -/
mutual
def uptoBulk {H : Type} : DataW H → Nat
  | .lit (.string bytes) => bytes.length + 1
  | .lit _ => 1
  | .nil => 1
  | .ptr d => uptoBulk d + 1
  | .slice elems spare => uptoBulkAll elems + uptoBulkAll spare + 1
  | .agg parts => uptoBulkAll parts + 1
  | .iface _ d => uptoBulk d + 1
  | .map entries => uptoBulkEntries entries + 1
  | .held _ => 1
def uptoBulkAll {H : Type} : List (DataW H) → Nat
  | [] => 0
  | d :: r => uptoBulk d + uptoBulkAll r
def uptoBulkEntries {H : Type} : List (Lit × DataW H) → Nat
  | [] => 0
  | x :: r => uptoBulkEntry x + uptoBulkEntries r
def uptoBulkEntry {H : Type} : Lit × DataW H → Nat
  | (.string bytes, d) => bytes.length + uptoBulk d + 1
  | (_, d) => uptoBulk d + 1
 end
def uptoSmall : (H : Type) → List (DataW H) → Bool := fun _ ds => decide (uptoBulkAll ds ≤ 1048576)
def OpenSpec.upto (s : _root_.Go.ChangeSpec) : _root_.Go.OpenSpec := { _root_.Go.OpenSpec.ofChange s with cond := some uptoSmall }

/-- 'ciboriumlaw11.ShardTells', WHERE WHAT IT READS IS OF BULK AT MOST 1048576: true; the input reads as it did. -/
def shardTellsUptoRow : OpenClaim := { program := "ytdhbgfnfbeapcaadoor", sum := "eb51e346d0aec419fa4a09bc4c6e2498a05781350e10e1b6b16cbb4b4811f04e", func := "ciborium/ciboriumlaw11.ShardTells", spec := "shardTells", unfollowed := true, recurses := true, named := ["ciborium/crc.nought"], apart := false, laid := [("ciborium/crc.nought", laid_ciborium_crc_nought)], narrowed := true }
def ShardTellsUptoSaid : Prop := shardTellsUptoRow.holds Tryd.pinned (OpenSpec.upto shardTellsSpec)

/-- 'ciboriumlaw11.ShardBack', WHERE WHAT IT READS IS OF BULK AT MOST 1048576: true; the input reads as it did. -/
def shardBackUptoRow : OpenClaim := { program := "ytdhbgfnfbeapcaadoor", sum := "eb51e346d0aec419fa4a09bc4c6e2498a05781350e10e1b6b16cbb4b4811f04e", func := "ciborium/ciboriumlaw11.ShardBack", spec := "shardBack", unfollowed := true, recurses := true, named := ["ciborium/crc.nought"], apart := false, laid := [("ciborium/crc.nought", laid_ciborium_crc_nought)], narrowed := true }
def ShardBackUptoSaid : Prop := shardBackUptoRow.holds Tryd.pinned (OpenSpec.upto shardBackSpec)

/-- 'ciboriumlaw11.ShardBursts', WHERE WHAT IT READS IS OF BULK AT MOST 1048576: true; the input reads as it did. -/
def shardBurstsUptoRow : OpenClaim := { program := "ytdhbgfnfbeapcaadoor", sum := "eb51e346d0aec419fa4a09bc4c6e2498a05781350e10e1b6b16cbb4b4811f04e", func := "ciborium/ciboriumlaw11.ShardBursts", spec := "shardBursts", unfollowed := true, recurses := true, named := ["ciborium/crc.nought"], apart := false, laid := [("ciborium/crc.nought", laid_ciborium_crc_nought)], narrowed := true }
def ShardBurstsUptoSaid : Prop := shardBurstsUptoRow.holds Tryd.pinned (OpenSpec.upto shardBurstsSpec)

/-- 'ciboriumlaw11.ShardGens', WHERE WHAT IT READS IS OF BULK AT MOST 1048576: true; the input reads as it did. -/
def shardGensUptoRow : OpenClaim := { program := "ytdhbgfnfbeapcaadoor", sum := "eb51e346d0aec419fa4a09bc4c6e2498a05781350e10e1b6b16cbb4b4811f04e", func := "ciborium/ciboriumlaw11.ShardGens", spec := "shardGens", unfollowed := true, recurses := true, named := ["ciborium/crc.nought"], apart := false, laid := [("ciborium/crc.nought", laid_ciborium_crc_nought)], narrowed := true }
def ShardGensUptoSaid : Prop := shardGensUptoRow.holds Tryd.pinned (OpenSpec.upto shardGensSpec)

end Rows
end Go.Proofs.YtdhbgfnfbeapcaaDoor
