/-
  NARROWER THAN 'FOR EVERY INPUT', by the rows' own cells (each row's printed sentence says how): ScrollPlays: laid · ScrollBack: laid · ScrollLost: laid · ScrollBytes: laid · ScrollCounts: laid.
  DERIVED. THE GIVEN ROWS OF THIS SEAT. 5 by the template 'for every input the law returns true; each argument reads behind the call as it read before'; 0 by the template 'total and deterministic' (their statements: YtokbhgbajdomnaaGreatDoorTotals.lean).
  GIVEN WITH THE SEED: the statements are not yours to turn. If you find one false, say at which input.
  Laid BY PROGRAM, IN A SANDBOX (cutbox-rows.mjs): the forced cells as the released guide's own fill.sh prints them over the translation 60347dd3b6d63c39… (all of the seat's roots in one cut). By AI agents, Wed Nov 11 2026. No macro, syntax, notation, axiom, sorry.
-/
import Derived.Test.YtokbhgbajdomnaaGreatDoorChecked
import GoSem.Claim
import GoSem.ClaimJoined
import GoSem.ClaimMapViews
import Derived.JoinedTies
import Derived.KernelRfl
namespace Go.Proofs.YtokbhgbajdomnaaGreatDoor
/- THE CELL 'sum', in the pinned program and in every row, IS THE sha256 OF THE DUMP (.gsa) THAT YtokbhgbajdomnaaGreatDoorProg.lean LOADS. Nothing in Lean hashes anything: it is a label: what it is worth is what the hold of that sum in a sandbox is worth. -/
noncomputable def Tryz.pinned : Pinned := { name := "ytokbhgbajdomnaagreatdoor", sum := "60347dd3b6d63c393cdfb67bbc328f0cc9ca0b4354bfe71056fee03ba1b11db2", checked := Tryz.checked }
namespace Rows
def none {H : Type} : Left H := { results := [], args := [] }

/- WHAT THE LISTED PACKAGE-LEVEL VARIABLES READ AS WHEN THE CALL BEGINS. Each datum BY PROGRAM (the guide's laid-datum.mjs) off the statement by which the dump's own 'gosem.cut.vars' lays the variable. In a bare row this is a premise. The card (YtokbhgbajdomnaaGreatDoorCards.lean) ties it to the program's text. -/
def laid_ciborium_crc_nought {H : Type} : DataW H := .agg [.lit (.int .u32 4067132163), .lit (.int .u32 3778769143), .lit (.int .u32 3348797215), .lit (.int .u32 2329499855), .lit (.int .u32 274646895), .lit (.int .u32 549293790), .lit (.int .u32 1098587580), .lit (.int .u32 2197175160), .lit (.int .u32 1), .lit (.int .u32 2), .lit (.int .u32 4), .lit (.int .u32 8), .lit (.int .u32 16), .lit (.int .u32 32), .lit (.int .u32 64), .lit (.int .u32 128), .lit (.int .u32 256), .lit (.int .u32 512), .lit (.int .u32 1024), .lit (.int .u32 2048), .lit (.int .u32 4096), .lit (.int .u32 8192), .lit (.int .u32 16384), .lit (.int .u32 32768), .lit (.int .u32 65536), .lit (.int .u32 131072), .lit (.int .u32 262144), .lit (.int .u32 524288), .lit (.int .u32 1048576), .lit (.int .u32 2097152), .lit (.int .u32 4194304), .lit (.int .u32 8388608)]
def laid_math_bits_deBruijn64tab {H : Type} : DataW H := .agg [.lit (.int .u8 0), .lit (.int .u8 1), .lit (.int .u8 56), .lit (.int .u8 2), .lit (.int .u8 57), .lit (.int .u8 49), .lit (.int .u8 28), .lit (.int .u8 3), .lit (.int .u8 61), .lit (.int .u8 58), .lit (.int .u8 42), .lit (.int .u8 50), .lit (.int .u8 38), .lit (.int .u8 29), .lit (.int .u8 17), .lit (.int .u8 4), .lit (.int .u8 62), .lit (.int .u8 47), .lit (.int .u8 59), .lit (.int .u8 36), .lit (.int .u8 45), .lit (.int .u8 43), .lit (.int .u8 51), .lit (.int .u8 22), .lit (.int .u8 53), .lit (.int .u8 39), .lit (.int .u8 33), .lit (.int .u8 30), .lit (.int .u8 24), .lit (.int .u8 18), .lit (.int .u8 12), .lit (.int .u8 5), .lit (.int .u8 63), .lit (.int .u8 55), .lit (.int .u8 48), .lit (.int .u8 27), .lit (.int .u8 60), .lit (.int .u8 41), .lit (.int .u8 37), .lit (.int .u8 16), .lit (.int .u8 46), .lit (.int .u8 35), .lit (.int .u8 44), .lit (.int .u8 21), .lit (.int .u8 52), .lit (.int .u8 32), .lit (.int .u8 23), .lit (.int .u8 11), .lit (.int .u8 54), .lit (.int .u8 26), .lit (.int .u8 40), .lit (.int .u8 15), .lit (.int .u8 34), .lit (.int .u8 20), .lit (.int .u8 31), .lit (.int .u8 10), .lit (.int .u8 25), .lit (.int .u8 14), .lit (.int .u8 19), .lit (.int .u8 9), .lit (.int .u8 13), .lit (.int .u8 8), .lit (.int .u8 7), .lit (.int .u8 6)]

/-- 'ciboriumlaw16.ScrollPlays': WHATEVER THE INPUT: true; the input reads as it did. -/
def scrollPlaysSpec : ChangeSpec := { name := "scrollPlays", fn := fun _ => fun
  | [d1, d2] => { results := [.lit (.bool true)], args := [d1, d2] }
  | _ => none }
def scrollPlaysRow : OpenClaim := { program := "ytokbhgbajdomnaagreatdoor", sum := "60347dd3b6d63c393cdfb67bbc328f0cc9ca0b4354bfe71056fee03ba1b11db2", func := "ciborium/ciboriumlaw16.ScrollPlays", spec := "scrollPlays", inPlace := ["sync/atomic.LoadUint32", "(*internal/sync.Mutex).Lock", "internal/race.Disable", "sync/atomic.CompareAndSwapInt32", "internal/race.Enable", "internal/race.Acquire", "(*internal/sync.Mutex).lockSlow", "internal/sync.runtime_canSpin", "internal/sync.runtime_doSpin", "internal/sync.throw", "internal/sync.runtime_nanotime", "internal/sync.runtime_SemacquireMutex", "sync/atomic.AddInt32", "(*internal/sync.Mutex).Unlock", "internal/race.ReleaseMerge", "(*internal/sync.Mutex).unlockSlow", "internal/sync.fatal", "internal/sync.runtime_Semrelease", "sync/atomic.StoreUint32"], unfollowed := true, recurses := true, named := ["math/bits.deBruijn64tab", "ciborium/crc.nought"], apart := false, laid := [("ciborium/crc.nought", laid_ciborium_crc_nought), ("math/bits.deBruijn64tab", laid_math_bits_deBruijn64tab)] }
def ScrollPlaysSaid : Prop := scrollPlaysRow.holds Tryz.pinned (OpenSpec.ofChange scrollPlaysSpec)

/-- ITS FALSE NEIGHBOUR: 'it returns false'. Refute it at one input. -/
def scrollPlaysWrong : ChangeSpec := { name := "scrollPlays", fn := fun _ => fun
  | [d1, d2] => { results := [.lit (.bool false)], args := [d1, d2] }
  | _ => none }
def ScrollPlaysWrongFalsely : Prop := scrollPlaysRow.holds Tryz.pinned (OpenSpec.ofChange scrollPlaysWrong)

/-- 'ciboriumlaw16.ScrollBack': WHATEVER THE INPUT: true; the input reads as it did. -/
def scrollBackSpec : ChangeSpec := { name := "scrollBack", fn := fun _ => fun
  | [d1, d2, d3, d4] => { results := [.lit (.bool true)], args := [d1, d2, d3, d4] }
  | _ => none }
def scrollBackRow : OpenClaim := { program := "ytokbhgbajdomnaagreatdoor", sum := "60347dd3b6d63c393cdfb67bbc328f0cc9ca0b4354bfe71056fee03ba1b11db2", func := "ciborium/ciboriumlaw16.ScrollBack", spec := "scrollBack", inPlace := ["sync/atomic.LoadUint32", "(*internal/sync.Mutex).Lock", "internal/race.Disable", "sync/atomic.CompareAndSwapInt32", "internal/race.Enable", "internal/race.Acquire", "(*internal/sync.Mutex).lockSlow", "internal/sync.runtime_canSpin", "internal/sync.runtime_doSpin", "internal/sync.throw", "internal/sync.runtime_nanotime", "internal/sync.runtime_SemacquireMutex", "sync/atomic.AddInt32", "(*internal/sync.Mutex).Unlock", "internal/race.ReleaseMerge", "(*internal/sync.Mutex).unlockSlow", "internal/sync.fatal", "internal/sync.runtime_Semrelease", "sync/atomic.StoreUint32"], unfollowed := true, recurses := true, named := ["math/bits.deBruijn64tab", "ciborium/crc.nought"], apart := false, laid := [("ciborium/crc.nought", laid_ciborium_crc_nought), ("math/bits.deBruijn64tab", laid_math_bits_deBruijn64tab)] }
def ScrollBackSaid : Prop := scrollBackRow.holds Tryz.pinned (OpenSpec.ofChange scrollBackSpec)

/-- ITS FALSE NEIGHBOUR: 'it returns false'. Refute it at one input. -/
def scrollBackWrong : ChangeSpec := { name := "scrollBack", fn := fun _ => fun
  | [d1, d2, d3, d4] => { results := [.lit (.bool false)], args := [d1, d2, d3, d4] }
  | _ => none }
def ScrollBackWrongFalsely : Prop := scrollBackRow.holds Tryz.pinned (OpenSpec.ofChange scrollBackWrong)

/-- 'ciboriumlaw16.ScrollLost': WHATEVER THE INPUT: true; the input reads as it did. -/
def scrollLostSpec : ChangeSpec := { name := "scrollLost", fn := fun _ => fun
  | [d1, d2, d3] => { results := [.lit (.bool true)], args := [d1, d2, d3] }
  | _ => none }
def scrollLostRow : OpenClaim := { program := "ytokbhgbajdomnaagreatdoor", sum := "60347dd3b6d63c393cdfb67bbc328f0cc9ca0b4354bfe71056fee03ba1b11db2", func := "ciborium/ciboriumlaw16.ScrollLost", spec := "scrollLost", inPlace := ["sync/atomic.LoadUint32", "(*internal/sync.Mutex).Lock", "internal/race.Disable", "sync/atomic.CompareAndSwapInt32", "internal/race.Enable", "internal/race.Acquire", "(*internal/sync.Mutex).lockSlow", "internal/sync.runtime_canSpin", "internal/sync.runtime_doSpin", "internal/sync.throw", "internal/sync.runtime_nanotime", "internal/sync.runtime_SemacquireMutex", "sync/atomic.AddInt32", "(*internal/sync.Mutex).Unlock", "internal/race.ReleaseMerge", "(*internal/sync.Mutex).unlockSlow", "internal/sync.fatal", "internal/sync.runtime_Semrelease", "sync/atomic.StoreUint32"], unfollowed := true, recurses := true, named := ["math/bits.deBruijn64tab", "ciborium/crc.nought"], apart := false, laid := [("ciborium/crc.nought", laid_ciborium_crc_nought), ("math/bits.deBruijn64tab", laid_math_bits_deBruijn64tab)] }
def ScrollLostSaid : Prop := scrollLostRow.holds Tryz.pinned (OpenSpec.ofChange scrollLostSpec)

/-- ITS FALSE NEIGHBOUR: 'it returns false'. Refute it at one input. -/
def scrollLostWrong : ChangeSpec := { name := "scrollLost", fn := fun _ => fun
  | [d1, d2, d3] => { results := [.lit (.bool false)], args := [d1, d2, d3] }
  | _ => none }
def ScrollLostWrongFalsely : Prop := scrollLostRow.holds Tryz.pinned (OpenSpec.ofChange scrollLostWrong)

/-- 'ciboriumlaw16.ScrollBytes': WHATEVER THE INPUT: true; the input reads as it did. -/
def scrollBytesSpec : ChangeSpec := { name := "scrollBytes", fn := fun _ => fun
  | [d1, d2, d3] => { results := [.lit (.bool true)], args := [d1, d2, d3] }
  | _ => none }
def scrollBytesRow : OpenClaim := { program := "ytokbhgbajdomnaagreatdoor", sum := "60347dd3b6d63c393cdfb67bbc328f0cc9ca0b4354bfe71056fee03ba1b11db2", func := "ciborium/ciboriumlaw16.ScrollBytes", spec := "scrollBytes", inPlace := ["sync/atomic.LoadUint32", "(*internal/sync.Mutex).Lock", "internal/race.Disable", "sync/atomic.CompareAndSwapInt32", "internal/race.Enable", "internal/race.Acquire", "(*internal/sync.Mutex).lockSlow", "internal/sync.runtime_canSpin", "internal/sync.runtime_doSpin", "internal/sync.throw", "internal/sync.runtime_nanotime", "internal/sync.runtime_SemacquireMutex", "sync/atomic.AddInt32", "(*internal/sync.Mutex).Unlock", "internal/race.ReleaseMerge", "(*internal/sync.Mutex).unlockSlow", "internal/sync.fatal", "internal/sync.runtime_Semrelease", "sync/atomic.StoreUint32"], unfollowed := true, recurses := true, named := ["math/bits.deBruijn64tab", "ciborium/crc.nought"], apart := false, laid := [("ciborium/crc.nought", laid_ciborium_crc_nought), ("math/bits.deBruijn64tab", laid_math_bits_deBruijn64tab)] }
def ScrollBytesSaid : Prop := scrollBytesRow.holds Tryz.pinned (OpenSpec.ofChange scrollBytesSpec)

/-- ITS FALSE NEIGHBOUR: 'it returns false'. Refute it at one input. -/
def scrollBytesWrong : ChangeSpec := { name := "scrollBytes", fn := fun _ => fun
  | [d1, d2, d3] => { results := [.lit (.bool false)], args := [d1, d2, d3] }
  | _ => none }
def ScrollBytesWrongFalsely : Prop := scrollBytesRow.holds Tryz.pinned (OpenSpec.ofChange scrollBytesWrong)

/-- 'ciboriumlaw16.ScrollCounts': WHATEVER THE INPUT: true; the input reads as it did. -/
def scrollCountsSpec : ChangeSpec := { name := "scrollCounts", fn := fun _ => fun
  | [d1, d2, d3] => { results := [.lit (.bool true)], args := [d1, d2, d3] }
  | _ => none }
def scrollCountsRow : OpenClaim := { program := "ytokbhgbajdomnaagreatdoor", sum := "60347dd3b6d63c393cdfb67bbc328f0cc9ca0b4354bfe71056fee03ba1b11db2", func := "ciborium/ciboriumlaw16.ScrollCounts", spec := "scrollCounts", inPlace := ["sync/atomic.LoadUint32", "(*internal/sync.Mutex).Lock", "internal/race.Disable", "sync/atomic.CompareAndSwapInt32", "internal/race.Enable", "internal/race.Acquire", "(*internal/sync.Mutex).lockSlow", "internal/sync.runtime_canSpin", "internal/sync.runtime_doSpin", "internal/sync.throw", "internal/sync.runtime_nanotime", "internal/sync.runtime_SemacquireMutex", "sync/atomic.AddInt32", "(*internal/sync.Mutex).Unlock", "internal/race.ReleaseMerge", "(*internal/sync.Mutex).unlockSlow", "internal/sync.fatal", "internal/sync.runtime_Semrelease", "sync/atomic.StoreUint32"], unfollowed := true, recurses := true, named := ["math/bits.deBruijn64tab", "ciborium/crc.nought"], apart := false, laid := [("ciborium/crc.nought", laid_ciborium_crc_nought), ("math/bits.deBruijn64tab", laid_math_bits_deBruijn64tab)] }
def ScrollCountsSaid : Prop := scrollCountsRow.holds Tryz.pinned (OpenSpec.ofChange scrollCountsSpec)

/-- ITS FALSE NEIGHBOUR: 'it returns false'. Refute it at one input. -/
def scrollCountsWrong : ChangeSpec := { name := "scrollCounts", fn := fun _ => fun
  | [d1, d2, d3] => { results := [.lit (.bool false)], args := [d1, d2, d3] }
  | _ => none }
def ScrollCountsWrongFalsely : Prop := scrollCountsRow.holds Tryz.pinned (OpenSpec.ofChange scrollCountsWrong)

/- THE SECOND FORM. 'bulk': how many values and letters a reading holds, each counted each time it is reached (what is shared counts as often as it is met; a slice's spare places count too). A statement '..UptoSaid' is the law's where the arguments, and the package variables that the reading takes, are together of bulk at most 1048576: NARROWER than '..Said'. Prove '..Said' where nothing that the law and all that it calls make is longer than what came in: it says more and counts as full. Else prove '..UptoSaid'. A law counts once. -/
mutual
def uptoBulk {H : Type} : DataW H → Nat
  | .lit (.string bytes) => bytes.length + 1
  | .lit _ => 1
  | .nil => 1
  | .ptr d => uptoBulk d + 1
  | .slice elems spare => uptoBulkAll elems + uptoBulkAll spare + 1
  | .agg parts => uptoBulkAll parts + 1
  | .iface _ d => uptoBulk d + 1
  | .map entries => uptoBulkEntries entries + 1
  | .held _ => 1
def uptoBulkAll {H : Type} : List (DataW H) → Nat
  | [] => 0
  | d :: r => uptoBulk d + uptoBulkAll r
def uptoBulkEntries {H : Type} : List (Lit × DataW H) → Nat
  | [] => 0
  | x :: r => uptoBulkEntry x + uptoBulkEntries r
def uptoBulkEntry {H : Type} : Lit × DataW H → Nat
  | (.string bytes, d) => bytes.length + uptoBulk d + 1
  | (_, d) => uptoBulk d + 1
 end
def uptoSmall : (H : Type) → List (DataW H) → Bool := fun _ ds => decide (uptoBulkAll ds ≤ 1048576)
def OpenSpec.upto (s : _root_.Go.ChangeSpec) : _root_.Go.OpenSpec := { _root_.Go.OpenSpec.ofChange s with cond := some uptoSmall }

/-- 'ciboriumlaw16.ScrollPlays', WHERE WHAT IT READS IS OF BULK AT MOST 1048576: true; the input reads as it did. -/
def scrollPlaysUptoRow : OpenClaim := { program := "ytokbhgbajdomnaagreatdoor", sum := "60347dd3b6d63c393cdfb67bbc328f0cc9ca0b4354bfe71056fee03ba1b11db2", func := "ciborium/ciboriumlaw16.ScrollPlays", spec := "scrollPlays", inPlace := ["sync/atomic.LoadUint32", "(*internal/sync.Mutex).Lock", "internal/race.Disable", "sync/atomic.CompareAndSwapInt32", "internal/race.Enable", "internal/race.Acquire", "(*internal/sync.Mutex).lockSlow", "internal/sync.runtime_canSpin", "internal/sync.runtime_doSpin", "internal/sync.throw", "internal/sync.runtime_nanotime", "internal/sync.runtime_SemacquireMutex", "sync/atomic.AddInt32", "(*internal/sync.Mutex).Unlock", "internal/race.ReleaseMerge", "(*internal/sync.Mutex).unlockSlow", "internal/sync.fatal", "internal/sync.runtime_Semrelease", "sync/atomic.StoreUint32"], unfollowed := true, recurses := true, named := ["math/bits.deBruijn64tab", "ciborium/crc.nought"], apart := false, laid := [("ciborium/crc.nought", laid_ciborium_crc_nought), ("math/bits.deBruijn64tab", laid_math_bits_deBruijn64tab)], narrowed := true }
def ScrollPlaysUptoSaid : Prop := scrollPlaysUptoRow.holds Tryz.pinned (OpenSpec.upto scrollPlaysSpec)

/-- 'ciboriumlaw16.ScrollBack', WHERE WHAT IT READS IS OF BULK AT MOST 1048576: true; the input reads as it did. -/
def scrollBackUptoRow : OpenClaim := { program := "ytokbhgbajdomnaagreatdoor", sum := "60347dd3b6d63c393cdfb67bbc328f0cc9ca0b4354bfe71056fee03ba1b11db2", func := "ciborium/ciboriumlaw16.ScrollBack", spec := "scrollBack", inPlace := ["sync/atomic.LoadUint32", "(*internal/sync.Mutex).Lock", "internal/race.Disable", "sync/atomic.CompareAndSwapInt32", "internal/race.Enable", "internal/race.Acquire", "(*internal/sync.Mutex).lockSlow", "internal/sync.runtime_canSpin", "internal/sync.runtime_doSpin", "internal/sync.throw", "internal/sync.runtime_nanotime", "internal/sync.runtime_SemacquireMutex", "sync/atomic.AddInt32", "(*internal/sync.Mutex).Unlock", "internal/race.ReleaseMerge", "(*internal/sync.Mutex).unlockSlow", "internal/sync.fatal", "internal/sync.runtime_Semrelease", "sync/atomic.StoreUint32"], unfollowed := true, recurses := true, named := ["math/bits.deBruijn64tab", "ciborium/crc.nought"], apart := false, laid := [("ciborium/crc.nought", laid_ciborium_crc_nought), ("math/bits.deBruijn64tab", laid_math_bits_deBruijn64tab)], narrowed := true }
def ScrollBackUptoSaid : Prop := scrollBackUptoRow.holds Tryz.pinned (OpenSpec.upto scrollBackSpec)

/-- 'ciboriumlaw16.ScrollLost', WHERE WHAT IT READS IS OF BULK AT MOST 1048576: true; the input reads as it did. -/
def scrollLostUptoRow : OpenClaim := { program := "ytokbhgbajdomnaagreatdoor", sum := "60347dd3b6d63c393cdfb67bbc328f0cc9ca0b4354bfe71056fee03ba1b11db2", func := "ciborium/ciboriumlaw16.ScrollLost", spec := "scrollLost", inPlace := ["sync/atomic.LoadUint32", "(*internal/sync.Mutex).Lock", "internal/race.Disable", "sync/atomic.CompareAndSwapInt32", "internal/race.Enable", "internal/race.Acquire", "(*internal/sync.Mutex).lockSlow", "internal/sync.runtime_canSpin", "internal/sync.runtime_doSpin", "internal/sync.throw", "internal/sync.runtime_nanotime", "internal/sync.runtime_SemacquireMutex", "sync/atomic.AddInt32", "(*internal/sync.Mutex).Unlock", "internal/race.ReleaseMerge", "(*internal/sync.Mutex).unlockSlow", "internal/sync.fatal", "internal/sync.runtime_Semrelease", "sync/atomic.StoreUint32"], unfollowed := true, recurses := true, named := ["math/bits.deBruijn64tab", "ciborium/crc.nought"], apart := false, laid := [("ciborium/crc.nought", laid_ciborium_crc_nought), ("math/bits.deBruijn64tab", laid_math_bits_deBruijn64tab)], narrowed := true }
def ScrollLostUptoSaid : Prop := scrollLostUptoRow.holds Tryz.pinned (OpenSpec.upto scrollLostSpec)

/-- 'ciboriumlaw16.ScrollBytes', WHERE WHAT IT READS IS OF BULK AT MOST 1048576: true; the input reads as it did. -/
def scrollBytesUptoRow : OpenClaim := { program := "ytokbhgbajdomnaagreatdoor", sum := "60347dd3b6d63c393cdfb67bbc328f0cc9ca0b4354bfe71056fee03ba1b11db2", func := "ciborium/ciboriumlaw16.ScrollBytes", spec := "scrollBytes", inPlace := ["sync/atomic.LoadUint32", "(*internal/sync.Mutex).Lock", "internal/race.Disable", "sync/atomic.CompareAndSwapInt32", "internal/race.Enable", "internal/race.Acquire", "(*internal/sync.Mutex).lockSlow", "internal/sync.runtime_canSpin", "internal/sync.runtime_doSpin", "internal/sync.throw", "internal/sync.runtime_nanotime", "internal/sync.runtime_SemacquireMutex", "sync/atomic.AddInt32", "(*internal/sync.Mutex).Unlock", "internal/race.ReleaseMerge", "(*internal/sync.Mutex).unlockSlow", "internal/sync.fatal", "internal/sync.runtime_Semrelease", "sync/atomic.StoreUint32"], unfollowed := true, recurses := true, named := ["math/bits.deBruijn64tab", "ciborium/crc.nought"], apart := false, laid := [("ciborium/crc.nought", laid_ciborium_crc_nought), ("math/bits.deBruijn64tab", laid_math_bits_deBruijn64tab)], narrowed := true }
def ScrollBytesUptoSaid : Prop := scrollBytesUptoRow.holds Tryz.pinned (OpenSpec.upto scrollBytesSpec)

/-- 'ciboriumlaw16.ScrollCounts', WHERE WHAT IT READS IS OF BULK AT MOST 1048576: true; the input reads as it did. -/
def scrollCountsUptoRow : OpenClaim := { program := "ytokbhgbajdomnaagreatdoor", sum := "60347dd3b6d63c393cdfb67bbc328f0cc9ca0b4354bfe71056fee03ba1b11db2", func := "ciborium/ciboriumlaw16.ScrollCounts", spec := "scrollCounts", inPlace := ["sync/atomic.LoadUint32", "(*internal/sync.Mutex).Lock", "internal/race.Disable", "sync/atomic.CompareAndSwapInt32", "internal/race.Enable", "internal/race.Acquire", "(*internal/sync.Mutex).lockSlow", "internal/sync.runtime_canSpin", "internal/sync.runtime_doSpin", "internal/sync.throw", "internal/sync.runtime_nanotime", "internal/sync.runtime_SemacquireMutex", "sync/atomic.AddInt32", "(*internal/sync.Mutex).Unlock", "internal/race.ReleaseMerge", "(*internal/sync.Mutex).unlockSlow", "internal/sync.fatal", "internal/sync.runtime_Semrelease", "sync/atomic.StoreUint32"], unfollowed := true, recurses := true, named := ["math/bits.deBruijn64tab", "ciborium/crc.nought"], apart := false, laid := [("ciborium/crc.nought", laid_ciborium_crc_nought), ("math/bits.deBruijn64tab", laid_math_bits_deBruijn64tab)], narrowed := true }
def ScrollCountsUptoSaid : Prop := scrollCountsUptoRow.holds Tryz.pinned (OpenSpec.upto scrollCountsSpec)

end Rows
end Go.Proofs.YtokbhgbajdomnaaGreatDoor
