/-
  NARROWER THAN 'FOR EVERY INPUT', by the rows' own cells (each row's printed sentence says how): ClogPlays: laid · ClogBack: laid · ClogCrash: laid · ClogAnew: laid · ClogNil: laid.
  DERIVED. THE GIVEN ROWS OF THIS SEAT. 5 by the template 'for every input the law returns true; each argument reads behind the call as it read before'; 0 by the template 'total and deterministic' (their statements: YtmhejbihdghhaaaGreatDoorTotals.lean).
  GIVEN WITH THE SEED: the statements are not yours to turn. If you find one false, say at which input.
  Laid BY PROGRAM, IN A SANDBOX (cutbox-rows.mjs): the forced cells as the released guide's own fill.sh prints them over the translation 59df97eee0f7b2ba… (all of the seat's roots in one cut). By AI agents, Wed Nov 11 2026. No macro, syntax, notation, axiom, sorry.
-/
import Derived.Test.YtmhejbihdghhaaaGreatDoorChecked
import GoSem.Claim
import GoSem.ClaimJoined
import GoSem.ClaimMapViews
import Derived.JoinedTies
import Derived.KernelRfl
namespace Go.Proofs.YtmhejbihdghhaaaGreatDoor
/- THE CELL 'sum', in the pinned program and in every row, IS THE sha256 OF THE DUMP (.gsa) THAT YtmhejbihdghhaaaGreatDoorProg.lean LOADS. Nothing in Lean hashes anything: it is a label: what it is worth is what the hold of that sum in a sandbox is worth. -/
noncomputable def Tryz.pinned : Pinned := { name := "ytmhejbihdghhaaagreatdoor", sum := "59df97eee0f7b2ba447a9dba37bda394f9fbf7349e3eb679cd54dd4fd4c0ba36", checked := Tryz.checked }
namespace Rows
def none {H : Type} : Left H := { results := [], args := [] }

/- WHAT THE LISTED PACKAGE-LEVEL VARIABLES READ AS WHEN THE CALL BEGINS. Each datum BY PROGRAM (the guide's laid-datum.mjs) off the statement by which the dump's own 'gosem.cut.vars' lays the variable. In a bare row this is a premise. The card (YtmhejbihdghhaaaGreatDoorCards.lean) ties it to the program's text. -/
def laid_ciborium_crc_nought {H : Type} : DataW H := .agg [.lit (.int .u32 4067132163), .lit (.int .u32 3778769143), .lit (.int .u32 3348797215), .lit (.int .u32 2329499855), .lit (.int .u32 274646895), .lit (.int .u32 549293790), .lit (.int .u32 1098587580), .lit (.int .u32 2197175160), .lit (.int .u32 1), .lit (.int .u32 2), .lit (.int .u32 4), .lit (.int .u32 8), .lit (.int .u32 16), .lit (.int .u32 32), .lit (.int .u32 64), .lit (.int .u32 128), .lit (.int .u32 256), .lit (.int .u32 512), .lit (.int .u32 1024), .lit (.int .u32 2048), .lit (.int .u32 4096), .lit (.int .u32 8192), .lit (.int .u32 16384), .lit (.int .u32 32768), .lit (.int .u32 65536), .lit (.int .u32 131072), .lit (.int .u32 262144), .lit (.int .u32 524288), .lit (.int .u32 1048576), .lit (.int .u32 2097152), .lit (.int .u32 4194304), .lit (.int .u32 8388608)]

/-- 'ciboriumlaw18.ClogPlays': WHATEVER THE INPUT: true; the input reads as it did. -/
def clogPlaysSpec : ChangeSpec := { name := "clogPlays", fn := fun _ => fun
  | [d1, d2, d3] => { results := [.lit (.bool true)], args := [d1, d2, d3] }
  | _ => none }
def clogPlaysRow : OpenClaim := { program := "ytmhejbihdghhaaagreatdoor", sum := "59df97eee0f7b2ba447a9dba37bda394f9fbf7349e3eb679cd54dd4fd4c0ba36", func := "ciborium/ciboriumlaw18.ClogPlays", spec := "clogPlays", inPlace := ["sync/atomic.LoadUint32", "(*internal/sync.Mutex).Lock", "internal/race.Disable", "sync/atomic.CompareAndSwapInt32", "internal/race.Enable", "internal/race.Acquire", "(*internal/sync.Mutex).lockSlow", "internal/sync.runtime_canSpin", "internal/sync.runtime_doSpin", "internal/sync.throw", "internal/sync.runtime_nanotime", "internal/sync.runtime_SemacquireMutex", "sync/atomic.AddInt32", "(*internal/sync.Mutex).Unlock", "internal/race.ReleaseMerge", "(*internal/sync.Mutex).unlockSlow", "internal/sync.fatal", "internal/sync.runtime_Semrelease", "sync/atomic.StoreUint32", "maps.clone"], unfollowed := true, recurses := true, named := ["ciborium/crc.nought"], apart := false, laid := [("ciborium/crc.nought", laid_ciborium_crc_nought)] }
def ClogPlaysSaid : Prop := clogPlaysRow.holds Tryz.pinned (OpenSpec.ofChange clogPlaysSpec)

/-- ITS FALSE NEIGHBOUR: 'it returns false'. Refute it at one input. -/
def clogPlaysWrong : ChangeSpec := { name := "clogPlays", fn := fun _ => fun
  | [d1, d2, d3] => { results := [.lit (.bool false)], args := [d1, d2, d3] }
  | _ => none }
def ClogPlaysWrongFalsely : Prop := clogPlaysRow.holds Tryz.pinned (OpenSpec.ofChange clogPlaysWrong)

/-- 'ciboriumlaw18.ClogBack': WHATEVER THE INPUT: true; the input reads as it did. -/
def clogBackSpec : ChangeSpec := { name := "clogBack", fn := fun _ => fun
  | [d1, d2, d3, d4] => { results := [.lit (.bool true)], args := [d1, d2, d3, d4] }
  | _ => none }
def clogBackRow : OpenClaim := { program := "ytmhejbihdghhaaagreatdoor", sum := "59df97eee0f7b2ba447a9dba37bda394f9fbf7349e3eb679cd54dd4fd4c0ba36", func := "ciborium/ciboriumlaw18.ClogBack", spec := "clogBack", inPlace := ["sync/atomic.LoadUint32", "(*internal/sync.Mutex).Lock", "internal/race.Disable", "sync/atomic.CompareAndSwapInt32", "internal/race.Enable", "internal/race.Acquire", "(*internal/sync.Mutex).lockSlow", "internal/sync.runtime_canSpin", "internal/sync.runtime_doSpin", "internal/sync.throw", "internal/sync.runtime_nanotime", "internal/sync.runtime_SemacquireMutex", "sync/atomic.AddInt32", "(*internal/sync.Mutex).Unlock", "internal/race.ReleaseMerge", "(*internal/sync.Mutex).unlockSlow", "internal/sync.fatal", "internal/sync.runtime_Semrelease", "sync/atomic.StoreUint32", "maps.clone"], unfollowed := true, recurses := true, named := ["ciborium/crc.nought"], apart := false, laid := [("ciborium/crc.nought", laid_ciborium_crc_nought)] }
def ClogBackSaid : Prop := clogBackRow.holds Tryz.pinned (OpenSpec.ofChange clogBackSpec)

/-- ITS FALSE NEIGHBOUR: 'it returns false'. Refute it at one input. -/
def clogBackWrong : ChangeSpec := { name := "clogBack", fn := fun _ => fun
  | [d1, d2, d3, d4] => { results := [.lit (.bool false)], args := [d1, d2, d3, d4] }
  | _ => none }
def ClogBackWrongFalsely : Prop := clogBackRow.holds Tryz.pinned (OpenSpec.ofChange clogBackWrong)

/-- 'ciboriumlaw18.ClogCrash': WHATEVER THE INPUT: true; the input reads as it did. -/
def clogCrashSpec : ChangeSpec := { name := "clogCrash", fn := fun _ => fun
  | [d1, d2, d3, d4, d5] => { results := [.lit (.bool true)], args := [d1, d2, d3, d4, d5] }
  | _ => none }
def clogCrashRow : OpenClaim := { program := "ytmhejbihdghhaaagreatdoor", sum := "59df97eee0f7b2ba447a9dba37bda394f9fbf7349e3eb679cd54dd4fd4c0ba36", func := "ciborium/ciboriumlaw18.ClogCrash", spec := "clogCrash", inPlace := ["sync/atomic.LoadUint32", "(*internal/sync.Mutex).Lock", "internal/race.Disable", "sync/atomic.CompareAndSwapInt32", "internal/race.Enable", "internal/race.Acquire", "(*internal/sync.Mutex).lockSlow", "internal/sync.runtime_canSpin", "internal/sync.runtime_doSpin", "internal/sync.throw", "internal/sync.runtime_nanotime", "internal/sync.runtime_SemacquireMutex", "sync/atomic.AddInt32", "(*internal/sync.Mutex).Unlock", "internal/race.ReleaseMerge", "(*internal/sync.Mutex).unlockSlow", "internal/sync.fatal", "internal/sync.runtime_Semrelease", "sync/atomic.StoreUint32", "maps.clone"], unfollowed := true, recurses := true, named := ["ciborium/crc.nought"], apart := false, laid := [("ciborium/crc.nought", laid_ciborium_crc_nought)] }
def ClogCrashSaid : Prop := clogCrashRow.holds Tryz.pinned (OpenSpec.ofChange clogCrashSpec)

/-- ITS FALSE NEIGHBOUR: 'it returns false'. Refute it at one input. -/
def clogCrashWrong : ChangeSpec := { name := "clogCrash", fn := fun _ => fun
  | [d1, d2, d3, d4, d5] => { results := [.lit (.bool false)], args := [d1, d2, d3, d4, d5] }
  | _ => none }
def ClogCrashWrongFalsely : Prop := clogCrashRow.holds Tryz.pinned (OpenSpec.ofChange clogCrashWrong)

/-- 'ciboriumlaw18.ClogAnew': WHATEVER THE INPUT: true; the input reads as it did. -/
def clogAnewSpec : ChangeSpec := { name := "clogAnew", fn := fun _ => fun
  | [d1, d2, d3, d4] => { results := [.lit (.bool true)], args := [d1, d2, d3, d4] }
  | _ => none }
def clogAnewRow : OpenClaim := { program := "ytmhejbihdghhaaagreatdoor", sum := "59df97eee0f7b2ba447a9dba37bda394f9fbf7349e3eb679cd54dd4fd4c0ba36", func := "ciborium/ciboriumlaw18.ClogAnew", spec := "clogAnew", inPlace := ["sync/atomic.LoadUint32", "(*internal/sync.Mutex).Lock", "internal/race.Disable", "sync/atomic.CompareAndSwapInt32", "internal/race.Enable", "internal/race.Acquire", "(*internal/sync.Mutex).lockSlow", "internal/sync.runtime_canSpin", "internal/sync.runtime_doSpin", "internal/sync.throw", "internal/sync.runtime_nanotime", "internal/sync.runtime_SemacquireMutex", "sync/atomic.AddInt32", "(*internal/sync.Mutex).Unlock", "internal/race.ReleaseMerge", "(*internal/sync.Mutex).unlockSlow", "internal/sync.fatal", "internal/sync.runtime_Semrelease", "sync/atomic.StoreUint32", "maps.clone"], unfollowed := true, recurses := true, named := ["ciborium/crc.nought"], apart := false, laid := [("ciborium/crc.nought", laid_ciborium_crc_nought)] }
def ClogAnewSaid : Prop := clogAnewRow.holds Tryz.pinned (OpenSpec.ofChange clogAnewSpec)

/-- ITS FALSE NEIGHBOUR: 'it returns false'. Refute it at one input. -/
def clogAnewWrong : ChangeSpec := { name := "clogAnew", fn := fun _ => fun
  | [d1, d2, d3, d4] => { results := [.lit (.bool false)], args := [d1, d2, d3, d4] }
  | _ => none }
def ClogAnewWrongFalsely : Prop := clogAnewRow.holds Tryz.pinned (OpenSpec.ofChange clogAnewWrong)

/-- 'ciboriumlaw18.ClogNil': WHATEVER THE INPUT: true; the input reads as it did. -/
def clogNilSpec : ChangeSpec := { name := "clogNil", fn := fun _ => fun
  | [d1, d2] => { results := [.lit (.bool true)], args := [d1, d2] }
  | _ => none }
def clogNilRow : OpenClaim := { program := "ytmhejbihdghhaaagreatdoor", sum := "59df97eee0f7b2ba447a9dba37bda394f9fbf7349e3eb679cd54dd4fd4c0ba36", func := "ciborium/ciboriumlaw18.ClogNil", spec := "clogNil", inPlace := ["sync/atomic.LoadUint32", "(*internal/sync.Mutex).Lock", "internal/race.Disable", "sync/atomic.CompareAndSwapInt32", "internal/race.Enable", "internal/race.Acquire", "(*internal/sync.Mutex).lockSlow", "internal/sync.runtime_canSpin", "internal/sync.runtime_doSpin", "internal/sync.throw", "internal/sync.runtime_nanotime", "internal/sync.runtime_SemacquireMutex", "sync/atomic.AddInt32", "(*internal/sync.Mutex).Unlock", "internal/race.ReleaseMerge", "(*internal/sync.Mutex).unlockSlow", "internal/sync.fatal", "internal/sync.runtime_Semrelease", "sync/atomic.StoreUint32", "maps.clone"], unfollowed := true, recurses := true, named := ["ciborium/crc.nought"], apart := false, laid := [("ciborium/crc.nought", laid_ciborium_crc_nought)] }
def ClogNilSaid : Prop := clogNilRow.holds Tryz.pinned (OpenSpec.ofChange clogNilSpec)

/-- ITS FALSE NEIGHBOUR: 'it returns false'. Refute it at one input. -/
def clogNilWrong : ChangeSpec := { name := "clogNil", fn := fun _ => fun
  | [d1, d2] => { results := [.lit (.bool false)], args := [d1, d2] }
  | _ => none }
def ClogNilWrongFalsely : Prop := clogNilRow.holds Tryz.pinned (OpenSpec.ofChange clogNilWrong)

/- THE SECOND FORM. 'bulk': how many values and letters a reading holds, each counted each time it is reached (what is shared counts as often as it is met; a slice's spare places count too). A statement '..UptoSaid' is the law's where the arguments, and the package variables that the reading takes, are together of bulk at most 1048576: NARROWER than '..Said'. Prove '..Said' where nothing that the law and all that it calls make is longer than what came in: it says more and counts as full. Else prove '..UptoSaid'. A law counts once. -/
mutual
def uptoBulk {H : Type} : DataW H → Nat
  | .lit (.string bytes) => bytes.length + 1
  | .lit _ => 1
  | .nil => 1
  | .ptr d => uptoBulk d + 1
  | .slice elems spare => uptoBulkAll elems + uptoBulkAll spare + 1
  | .agg parts => uptoBulkAll parts + 1
  | .iface _ d => uptoBulk d + 1
  | .map entries => uptoBulkEntries entries + 1
  | .held _ => 1
def uptoBulkAll {H : Type} : List (DataW H) → Nat
  | [] => 0
  | d :: r => uptoBulk d + uptoBulkAll r
def uptoBulkEntries {H : Type} : List (Lit × DataW H) → Nat
  | [] => 0
  | x :: r => uptoBulkEntry x + uptoBulkEntries r
def uptoBulkEntry {H : Type} : Lit × DataW H → Nat
  | (.string bytes, d) => bytes.length + uptoBulk d + 1
  | (_, d) => uptoBulk d + 1
 end
def uptoSmall : (H : Type) → List (DataW H) → Bool := fun _ ds => decide (uptoBulkAll ds ≤ 1048576)
def OpenSpec.upto (s : _root_.Go.ChangeSpec) : _root_.Go.OpenSpec := { _root_.Go.OpenSpec.ofChange s with cond := some uptoSmall }

/-- 'ciboriumlaw18.ClogPlays', WHERE WHAT IT READS IS OF BULK AT MOST 1048576: true; the input reads as it did. -/
def clogPlaysUptoRow : OpenClaim := { program := "ytmhejbihdghhaaagreatdoor", sum := "59df97eee0f7b2ba447a9dba37bda394f9fbf7349e3eb679cd54dd4fd4c0ba36", func := "ciborium/ciboriumlaw18.ClogPlays", spec := "clogPlays", inPlace := ["sync/atomic.LoadUint32", "(*internal/sync.Mutex).Lock", "internal/race.Disable", "sync/atomic.CompareAndSwapInt32", "internal/race.Enable", "internal/race.Acquire", "(*internal/sync.Mutex).lockSlow", "internal/sync.runtime_canSpin", "internal/sync.runtime_doSpin", "internal/sync.throw", "internal/sync.runtime_nanotime", "internal/sync.runtime_SemacquireMutex", "sync/atomic.AddInt32", "(*internal/sync.Mutex).Unlock", "internal/race.ReleaseMerge", "(*internal/sync.Mutex).unlockSlow", "internal/sync.fatal", "internal/sync.runtime_Semrelease", "sync/atomic.StoreUint32", "maps.clone"], unfollowed := true, recurses := true, named := ["ciborium/crc.nought"], apart := false, laid := [("ciborium/crc.nought", laid_ciborium_crc_nought)], narrowed := true }
def ClogPlaysUptoSaid : Prop := clogPlaysUptoRow.holds Tryz.pinned (OpenSpec.upto clogPlaysSpec)

/-- 'ciboriumlaw18.ClogBack', WHERE WHAT IT READS IS OF BULK AT MOST 1048576: true; the input reads as it did. -/
def clogBackUptoRow : OpenClaim := { program := "ytmhejbihdghhaaagreatdoor", sum := "59df97eee0f7b2ba447a9dba37bda394f9fbf7349e3eb679cd54dd4fd4c0ba36", func := "ciborium/ciboriumlaw18.ClogBack", spec := "clogBack", inPlace := ["sync/atomic.LoadUint32", "(*internal/sync.Mutex).Lock", "internal/race.Disable", "sync/atomic.CompareAndSwapInt32", "internal/race.Enable", "internal/race.Acquire", "(*internal/sync.Mutex).lockSlow", "internal/sync.runtime_canSpin", "internal/sync.runtime_doSpin", "internal/sync.throw", "internal/sync.runtime_nanotime", "internal/sync.runtime_SemacquireMutex", "sync/atomic.AddInt32", "(*internal/sync.Mutex).Unlock", "internal/race.ReleaseMerge", "(*internal/sync.Mutex).unlockSlow", "internal/sync.fatal", "internal/sync.runtime_Semrelease", "sync/atomic.StoreUint32", "maps.clone"], unfollowed := true, recurses := true, named := ["ciborium/crc.nought"], apart := false, laid := [("ciborium/crc.nought", laid_ciborium_crc_nought)], narrowed := true }
def ClogBackUptoSaid : Prop := clogBackUptoRow.holds Tryz.pinned (OpenSpec.upto clogBackSpec)

/-- 'ciboriumlaw18.ClogCrash', WHERE WHAT IT READS IS OF BULK AT MOST 1048576: true; the input reads as it did. -/
def clogCrashUptoRow : OpenClaim := { program := "ytmhejbihdghhaaagreatdoor", sum := "59df97eee0f7b2ba447a9dba37bda394f9fbf7349e3eb679cd54dd4fd4c0ba36", func := "ciborium/ciboriumlaw18.ClogCrash", spec := "clogCrash", inPlace := ["sync/atomic.LoadUint32", "(*internal/sync.Mutex).Lock", "internal/race.Disable", "sync/atomic.CompareAndSwapInt32", "internal/race.Enable", "internal/race.Acquire", "(*internal/sync.Mutex).lockSlow", "internal/sync.runtime_canSpin", "internal/sync.runtime_doSpin", "internal/sync.throw", "internal/sync.runtime_nanotime", "internal/sync.runtime_SemacquireMutex", "sync/atomic.AddInt32", "(*internal/sync.Mutex).Unlock", "internal/race.ReleaseMerge", "(*internal/sync.Mutex).unlockSlow", "internal/sync.fatal", "internal/sync.runtime_Semrelease", "sync/atomic.StoreUint32", "maps.clone"], unfollowed := true, recurses := true, named := ["ciborium/crc.nought"], apart := false, laid := [("ciborium/crc.nought", laid_ciborium_crc_nought)], narrowed := true }
def ClogCrashUptoSaid : Prop := clogCrashUptoRow.holds Tryz.pinned (OpenSpec.upto clogCrashSpec)

/-- 'ciboriumlaw18.ClogAnew', WHERE WHAT IT READS IS OF BULK AT MOST 1048576: true; the input reads as it did. -/
def clogAnewUptoRow : OpenClaim := { program := "ytmhejbihdghhaaagreatdoor", sum := "59df97eee0f7b2ba447a9dba37bda394f9fbf7349e3eb679cd54dd4fd4c0ba36", func := "ciborium/ciboriumlaw18.ClogAnew", spec := "clogAnew", inPlace := ["sync/atomic.LoadUint32", "(*internal/sync.Mutex).Lock", "internal/race.Disable", "sync/atomic.CompareAndSwapInt32", "internal/race.Enable", "internal/race.Acquire", "(*internal/sync.Mutex).lockSlow", "internal/sync.runtime_canSpin", "internal/sync.runtime_doSpin", "internal/sync.throw", "internal/sync.runtime_nanotime", "internal/sync.runtime_SemacquireMutex", "sync/atomic.AddInt32", "(*internal/sync.Mutex).Unlock", "internal/race.ReleaseMerge", "(*internal/sync.Mutex).unlockSlow", "internal/sync.fatal", "internal/sync.runtime_Semrelease", "sync/atomic.StoreUint32", "maps.clone"], unfollowed := true, recurses := true, named := ["ciborium/crc.nought"], apart := false, laid := [("ciborium/crc.nought", laid_ciborium_crc_nought)], narrowed := true }
def ClogAnewUptoSaid : Prop := clogAnewUptoRow.holds Tryz.pinned (OpenSpec.upto clogAnewSpec)

/-- 'ciboriumlaw18.ClogNil', WHERE WHAT IT READS IS OF BULK AT MOST 1048576: true; the input reads as it did. -/
def clogNilUptoRow : OpenClaim := { program := "ytmhejbihdghhaaagreatdoor", sum := "59df97eee0f7b2ba447a9dba37bda394f9fbf7349e3eb679cd54dd4fd4c0ba36", func := "ciborium/ciboriumlaw18.ClogNil", spec := "clogNil", inPlace := ["sync/atomic.LoadUint32", "(*internal/sync.Mutex).Lock", "internal/race.Disable", "sync/atomic.CompareAndSwapInt32", "internal/race.Enable", "internal/race.Acquire", "(*internal/sync.Mutex).lockSlow", "internal/sync.runtime_canSpin", "internal/sync.runtime_doSpin", "internal/sync.throw", "internal/sync.runtime_nanotime", "internal/sync.runtime_SemacquireMutex", "sync/atomic.AddInt32", "(*internal/sync.Mutex).Unlock", "internal/race.ReleaseMerge", "(*internal/sync.Mutex).unlockSlow", "internal/sync.fatal", "internal/sync.runtime_Semrelease", "sync/atomic.StoreUint32", "maps.clone"], unfollowed := true, recurses := true, named := ["ciborium/crc.nought"], apart := false, laid := [("ciborium/crc.nought", laid_ciborium_crc_nought)], narrowed := true }
def ClogNilUptoSaid : Prop := clogNilUptoRow.holds Tryz.pinned (OpenSpec.upto clogNilSpec)

end Rows
end Go.Proofs.YtmhejbihdghhaaaGreatDoor
