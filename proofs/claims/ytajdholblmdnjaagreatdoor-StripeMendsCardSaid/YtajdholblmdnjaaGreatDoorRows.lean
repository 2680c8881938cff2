/-
  NARROWER THAN 'FOR EVERY INPUT', by the rows' own cells (each row's printed sentence says how): StripeBack: laid · StripeMends: laid · StripeCrash: laid · StripeStale: laid.
  DERIVED. THE GIVEN ROWS OF THIS SEAT. 4 by the template 'for every input the law returns true; each argument reads behind the call as it read before'; 0 by the template 'total and deterministic' (their statements: YtajdholblmdnjaaGreatDoorTotals.lean).
  GIVEN WITH THE SEED: the statements are not yours to turn. If you find one false, say at which input.
  Laid BY PROGRAM, IN A SANDBOX (cutbox-rows.mjs): the forced cells as the released guide's own fill.sh prints them over the translation 1fdeb9974062d023… (all of the seat's roots in one cut). By AI agents, Wed Nov 11 2026. No macro, syntax, notation, axiom, sorry.
-/
import Derived.Test.YtajdholblmdnjaaGreatDoorChecked
import GoSem.Claim
import GoSem.ClaimJoined
import GoSem.ClaimMapViews
import Derived.JoinedTies
import Derived.KernelRfl
namespace Go.Proofs.YtajdholblmdnjaaGreatDoor
/- THE CELL 'sum', in the pinned program and in every row, IS THE sha256 OF THE DUMP (.gsa) THAT YtajdholblmdnjaaGreatDoorProg.lean LOADS. Nothing in Lean hashes anything: it is a label: what it is worth is what the hold of that sum in a sandbox is worth. -/
noncomputable def Tryz.pinned : Pinned := { name := "ytajdholblmdnjaagreatdoor", sum := "1fdeb9974062d0231fcfd8aa9e29548c6c212e70945cbea5807b74ac96b574f1", checked := Tryz.checked }
namespace Rows
def none {H : Type} : Left H := { results := [], args := [] }

/- WHAT THE LISTED PACKAGE-LEVEL VARIABLES READ AS WHEN THE CALL BEGINS. Each datum BY PROGRAM (the guide's laid-datum.mjs) off the statement by which the dump's own 'gosem.cut.vars' lays the variable. In a bare row this is a premise. The card (YtajdholblmdnjaaGreatDoorCards.lean) ties it to the program's text. -/
def laid_ciborium_crc_nought {H : Type} : DataW H := .agg [.lit (.int .u32 4067132163), .lit (.int .u32 3778769143), .lit (.int .u32 3348797215), .lit (.int .u32 2329499855), .lit (.int .u32 274646895), .lit (.int .u32 549293790), .lit (.int .u32 1098587580), .lit (.int .u32 2197175160), .lit (.int .u32 1), .lit (.int .u32 2), .lit (.int .u32 4), .lit (.int .u32 8), .lit (.int .u32 16), .lit (.int .u32 32), .lit (.int .u32 64), .lit (.int .u32 128), .lit (.int .u32 256), .lit (.int .u32 512), .lit (.int .u32 1024), .lit (.int .u32 2048), .lit (.int .u32 4096), .lit (.int .u32 8192), .lit (.int .u32 16384), .lit (.int .u32 32768), .lit (.int .u32 65536), .lit (.int .u32 131072), .lit (.int .u32 262144), .lit (.int .u32 524288), .lit (.int .u32 1048576), .lit (.int .u32 2097152), .lit (.int .u32 4194304), .lit (.int .u32 8388608)]

/-- 'ciboriumlaw13.StripeBack': WHATEVER THE INPUT: true; the input reads as it did. -/
def stripeBackSpec : ChangeSpec := { name := "stripeBack", fn := fun _ => fun
  | [d1, d2, d3, d4, d5, d6, d7] => { results := [.lit (.bool true)], args := [d1, d2, d3, d4, d5, d6, d7] }
  | _ => none }
def stripeBackRow : OpenClaim := { program := "ytajdholblmdnjaagreatdoor", sum := "1fdeb9974062d0231fcfd8aa9e29548c6c212e70945cbea5807b74ac96b574f1", func := "ciborium/ciboriumlaw13.StripeBack", spec := "stripeBack", inPlace := ["sync/atomic.LoadUint32", "(*internal/sync.Mutex).Lock", "internal/race.Disable", "sync/atomic.CompareAndSwapInt32", "internal/race.Enable", "internal/race.Acquire", "(*internal/sync.Mutex).lockSlow", "internal/sync.runtime_canSpin", "internal/sync.runtime_doSpin", "internal/sync.throw", "internal/sync.runtime_nanotime", "internal/sync.runtime_SemacquireMutex", "sync/atomic.AddInt32", "(*internal/sync.Mutex).Unlock", "internal/race.ReleaseMerge", "(*internal/sync.Mutex).unlockSlow", "internal/sync.fatal", "internal/sync.runtime_Semrelease", "sync/atomic.StoreUint32", "maps.clone"], unfollowed := true, recurses := true, named := ["ciborium/crc.nought"], apart := false, laid := [("ciborium/crc.nought", laid_ciborium_crc_nought)] }
def StripeBackSaid : Prop := stripeBackRow.holds Tryz.pinned (OpenSpec.ofChange stripeBackSpec)

/-- ITS FALSE NEIGHBOUR: 'it returns false'. Refute it at one input. -/
def stripeBackWrong : ChangeSpec := { name := "stripeBack", fn := fun _ => fun
  | [d1, d2, d3, d4, d5, d6, d7] => { results := [.lit (.bool false)], args := [d1, d2, d3, d4, d5, d6, d7] }
  | _ => none }
def StripeBackWrongFalsely : Prop := stripeBackRow.holds Tryz.pinned (OpenSpec.ofChange stripeBackWrong)

/-- 'ciboriumlaw13.StripeMends': WHATEVER THE INPUT: true; the input reads as it did. -/
def stripeMendsSpec : ChangeSpec := { name := "stripeMends", fn := fun _ => fun
  | [d1, d2, d3, d4, d5, d6, d7] => { results := [.lit (.bool true)], args := [d1, d2, d3, d4, d5, d6, d7] }
  | _ => none }
def stripeMendsRow : OpenClaim := { program := "ytajdholblmdnjaagreatdoor", sum := "1fdeb9974062d0231fcfd8aa9e29548c6c212e70945cbea5807b74ac96b574f1", func := "ciborium/ciboriumlaw13.StripeMends", spec := "stripeMends", inPlace := ["sync/atomic.LoadUint32", "(*internal/sync.Mutex).Lock", "internal/race.Disable", "sync/atomic.CompareAndSwapInt32", "internal/race.Enable", "internal/race.Acquire", "(*internal/sync.Mutex).lockSlow", "internal/sync.runtime_canSpin", "internal/sync.runtime_doSpin", "internal/sync.throw", "internal/sync.runtime_nanotime", "internal/sync.runtime_SemacquireMutex", "sync/atomic.AddInt32", "(*internal/sync.Mutex).Unlock", "internal/race.ReleaseMerge", "(*internal/sync.Mutex).unlockSlow", "internal/sync.fatal", "internal/sync.runtime_Semrelease", "sync/atomic.StoreUint32"], unfollowed := true, recurses := true, named := ["ciborium/crc.nought"], apart := false, laid := [("ciborium/crc.nought", laid_ciborium_crc_nought)] }
def StripeMendsSaid : Prop := stripeMendsRow.holds Tryz.pinned (OpenSpec.ofChange stripeMendsSpec)

/-- ITS FALSE NEIGHBOUR: 'it returns false'. Refute it at one input. -/
def stripeMendsWrong : ChangeSpec := { name := "stripeMends", fn := fun _ => fun
  | [d1, d2, d3, d4, d5, d6, d7] => { results := [.lit (.bool false)], args := [d1, d2, d3, d4, d5, d6, d7] }
  | _ => none }
def StripeMendsWrongFalsely : Prop := stripeMendsRow.holds Tryz.pinned (OpenSpec.ofChange stripeMendsWrong)

/-- 'ciboriumlaw13.StripeCrash': WHATEVER THE INPUT: true; the input reads as it did. -/
def stripeCrashSpec : ChangeSpec := { name := "stripeCrash", fn := fun _ => fun
  | [d1, d2, d3, d4, d5] => { results := [.lit (.bool true)], args := [d1, d2, d3, d4, d5] }
  | _ => none }
def stripeCrashRow : OpenClaim := { program := "ytajdholblmdnjaagreatdoor", sum := "1fdeb9974062d0231fcfd8aa9e29548c6c212e70945cbea5807b74ac96b574f1", func := "ciborium/ciboriumlaw13.StripeCrash", spec := "stripeCrash", inPlace := ["sync/atomic.LoadUint32", "(*internal/sync.Mutex).Lock", "internal/race.Disable", "sync/atomic.CompareAndSwapInt32", "internal/race.Enable", "internal/race.Acquire", "(*internal/sync.Mutex).lockSlow", "internal/sync.runtime_canSpin", "internal/sync.runtime_doSpin", "internal/sync.throw", "internal/sync.runtime_nanotime", "internal/sync.runtime_SemacquireMutex", "sync/atomic.AddInt32", "(*internal/sync.Mutex).Unlock", "internal/race.ReleaseMerge", "(*internal/sync.Mutex).unlockSlow", "internal/sync.fatal", "internal/sync.runtime_Semrelease", "sync/atomic.StoreUint32"], unfollowed := true, recurses := true, named := ["ciborium/crc.nought"], apart := false, laid := [("ciborium/crc.nought", laid_ciborium_crc_nought)] }
def StripeCrashSaid : Prop := stripeCrashRow.holds Tryz.pinned (OpenSpec.ofChange stripeCrashSpec)

/-- ITS FALSE NEIGHBOUR: 'it returns false'. Refute it at one input. -/
def stripeCrashWrong : ChangeSpec := { name := "stripeCrash", fn := fun _ => fun
  | [d1, d2, d3, d4, d5] => { results := [.lit (.bool false)], args := [d1, d2, d3, d4, d5] }
  | _ => none }
def StripeCrashWrongFalsely : Prop := stripeCrashRow.holds Tryz.pinned (OpenSpec.ofChange stripeCrashWrong)

/-- 'ciboriumlaw13.StripeStale': WHATEVER THE INPUT: true; the input reads as it did. -/
def stripeStaleSpec : ChangeSpec := { name := "stripeStale", fn := fun _ => fun
  | [d1, d2, d3, d4, d5, d6] => { results := [.lit (.bool true)], args := [d1, d2, d3, d4, d5, d6] }
  | _ => none }
def stripeStaleRow : OpenClaim := { program := "ytajdholblmdnjaagreatdoor", sum := "1fdeb9974062d0231fcfd8aa9e29548c6c212e70945cbea5807b74ac96b574f1", func := "ciborium/ciboriumlaw13.StripeStale", spec := "stripeStale", inPlace := ["sync/atomic.LoadUint32", "(*internal/sync.Mutex).Lock", "internal/race.Disable", "sync/atomic.CompareAndSwapInt32", "internal/race.Enable", "internal/race.Acquire", "(*internal/sync.Mutex).lockSlow", "internal/sync.runtime_canSpin", "internal/sync.runtime_doSpin", "internal/sync.throw", "internal/sync.runtime_nanotime", "internal/sync.runtime_SemacquireMutex", "sync/atomic.AddInt32", "(*internal/sync.Mutex).Unlock", "internal/race.ReleaseMerge", "(*internal/sync.Mutex).unlockSlow", "internal/sync.fatal", "internal/sync.runtime_Semrelease", "sync/atomic.StoreUint32"], unfollowed := true, recurses := true, named := ["ciborium/crc.nought"], apart := false, laid := [("ciborium/crc.nought", laid_ciborium_crc_nought)] }
def StripeStaleSaid : Prop := stripeStaleRow.holds Tryz.pinned (OpenSpec.ofChange stripeStaleSpec)

/-- ITS FALSE NEIGHBOUR: 'it returns false'. Refute it at one input. -/
def stripeStaleWrong : ChangeSpec := { name := "stripeStale", fn := fun _ => fun
  | [d1, d2, d3, d4, d5, d6] => { results := [.lit (.bool false)], args := [d1, d2, d3, d4, d5, d6] }
  | _ => none }
def StripeStaleWrongFalsely : Prop := stripeStaleRow.holds Tryz.pinned (OpenSpec.ofChange stripeStaleWrong)

/- THE SECOND FORM. 'bulk': how many values and letters a reading holds, each counted each time it is reached (what is shared counts as often as it is met; a slice's spare places count too). A statement '..UptoSaid' is the law's where the arguments, and the package variables that the reading takes, are together of bulk at most 1048576: NARROWER than '..Said'. Prove '..Said' where nothing that the law and all that it calls make is longer than what came in: it says more and counts as full. Else prove '..UptoSaid'. A law counts once. -/
mutual
def uptoBulk {H : Type} : DataW H → Nat
  | .lit (.string bytes) => bytes.length + 1
  | .lit _ => 1
  | .nil => 1
  | .ptr d => uptoBulk d + 1
  | .slice elems spare => uptoBulkAll elems + uptoBulkAll spare + 1
  | .agg parts => uptoBulkAll parts + 1
  | .iface _ d => uptoBulk d + 1
  | .map entries => uptoBulkEntries entries + 1
  | .held _ => 1
def uptoBulkAll {H : Type} : List (DataW H) → Nat
  | [] => 0
  | d :: r => uptoBulk d + uptoBulkAll r
def uptoBulkEntries {H : Type} : List (Lit × DataW H) → Nat
  | [] => 0
  | x :: r => uptoBulkEntry x + uptoBulkEntries r
def uptoBulkEntry {H : Type} : Lit × DataW H → Nat
  | (.string bytes, d) => bytes.length + uptoBulk d + 1
  | (_, d) => uptoBulk d + 1
 end
def uptoSmall : (H : Type) → List (DataW H) → Bool := fun _ ds => decide (uptoBulkAll ds ≤ 1048576)
def OpenSpec.upto (s : _root_.Go.ChangeSpec) : _root_.Go.OpenSpec := { _root_.Go.OpenSpec.ofChange s with cond := some uptoSmall }

/-- 'ciboriumlaw13.StripeBack', WHERE WHAT IT READS IS OF BULK AT MOST 1048576: true; the input reads as it did. -/
def stripeBackUptoRow : OpenClaim := { program := "ytajdholblmdnjaagreatdoor", sum := "1fdeb9974062d0231fcfd8aa9e29548c6c212e70945cbea5807b74ac96b574f1", func := "ciborium/ciboriumlaw13.StripeBack", spec := "stripeBack", inPlace := ["sync/atomic.LoadUint32", "(*internal/sync.Mutex).Lock", "internal/race.Disable", "sync/atomic.CompareAndSwapInt32", "internal/race.Enable", "internal/race.Acquire", "(*internal/sync.Mutex).lockSlow", "internal/sync.runtime_canSpin", "internal/sync.runtime_doSpin", "internal/sync.throw", "internal/sync.runtime_nanotime", "internal/sync.runtime_SemacquireMutex", "sync/atomic.AddInt32", "(*internal/sync.Mutex).Unlock", "internal/race.ReleaseMerge", "(*internal/sync.Mutex).unlockSlow", "internal/sync.fatal", "internal/sync.runtime_Semrelease", "sync/atomic.StoreUint32", "maps.clone"], unfollowed := true, recurses := true, named := ["ciborium/crc.nought"], apart := false, laid := [("ciborium/crc.nought", laid_ciborium_crc_nought)], narrowed := true }
def StripeBackUptoSaid : Prop := stripeBackUptoRow.holds Tryz.pinned (OpenSpec.upto stripeBackSpec)

/-- 'ciboriumlaw13.StripeMends', WHERE WHAT IT READS IS OF BULK AT MOST 1048576: true; the input reads as it did. -/
def stripeMendsUptoRow : OpenClaim := { program := "ytajdholblmdnjaagreatdoor", sum := "1fdeb9974062d0231fcfd8aa9e29548c6c212e70945cbea5807b74ac96b574f1", func := "ciborium/ciboriumlaw13.StripeMends", spec := "stripeMends", inPlace := ["sync/atomic.LoadUint32", "(*internal/sync.Mutex).Lock", "internal/race.Disable", "sync/atomic.CompareAndSwapInt32", "internal/race.Enable", "internal/race.Acquire", "(*internal/sync.Mutex).lockSlow", "internal/sync.runtime_canSpin", "internal/sync.runtime_doSpin", "internal/sync.throw", "internal/sync.runtime_nanotime", "internal/sync.runtime_SemacquireMutex", "sync/atomic.AddInt32", "(*internal/sync.Mutex).Unlock", "internal/race.ReleaseMerge", "(*internal/sync.Mutex).unlockSlow", "internal/sync.fatal", "internal/sync.runtime_Semrelease", "sync/atomic.StoreUint32"], unfollowed := true, recurses := true, named := ["ciborium/crc.nought"], apart := false, laid := [("ciborium/crc.nought", laid_ciborium_crc_nought)], narrowed := true }
def StripeMendsUptoSaid : Prop := stripeMendsUptoRow.holds Tryz.pinned (OpenSpec.upto stripeMendsSpec)

/-- 'ciboriumlaw13.StripeCrash', WHERE WHAT IT READS IS OF BULK AT MOST 1048576: true; the input reads as it did. -/
def stripeCrashUptoRow : OpenClaim := { program := "ytajdholblmdnjaagreatdoor", sum := "1fdeb9974062d0231fcfd8aa9e29548c6c212e70945cbea5807b74ac96b574f1", func := "ciborium/ciboriumlaw13.StripeCrash", spec := "stripeCrash", inPlace := ["sync/atomic.LoadUint32", "(*internal/sync.Mutex).Lock", "internal/race.Disable", "sync/atomic.CompareAndSwapInt32", "internal/race.Enable", "internal/race.Acquire", "(*internal/sync.Mutex).lockSlow", "internal/sync.runtime_canSpin", "internal/sync.runtime_doSpin", "internal/sync.throw", "internal/sync.runtime_nanotime", "internal/sync.runtime_SemacquireMutex", "sync/atomic.AddInt32", "(*internal/sync.Mutex).Unlock", "internal/race.ReleaseMerge", "(*internal/sync.Mutex).unlockSlow", "internal/sync.fatal", "internal/sync.runtime_Semrelease", "sync/atomic.StoreUint32"], unfollowed := true, recurses := true, named := ["ciborium/crc.nought"], apart := false, laid := [("ciborium/crc.nought", laid_ciborium_crc_nought)], narrowed := true }
def StripeCrashUptoSaid : Prop := stripeCrashUptoRow.holds Tryz.pinned (OpenSpec.upto stripeCrashSpec)

/-- 'ciboriumlaw13.StripeStale', WHERE WHAT IT READS IS OF BULK AT MOST 1048576: true; the input reads as it did. -/
def stripeStaleUptoRow : OpenClaim := { program := "ytajdholblmdnjaagreatdoor", sum := "1fdeb9974062d0231fcfd8aa9e29548c6c212e70945cbea5807b74ac96b574f1", func := "ciborium/ciboriumlaw13.StripeStale", spec := "stripeStale", inPlace := ["sync/atomic.LoadUint32", "(*internal/sync.Mutex).Lock", "internal/race.Disable", "sync/atomic.CompareAndSwapInt32", "internal/race.Enable", "internal/race.Acquire", "(*internal/sync.Mutex).lockSlow", "internal/sync.runtime_canSpin", "internal/sync.runtime_doSpin", "internal/sync.throw", "internal/sync.runtime_nanotime", "internal/sync.runtime_SemacquireMutex", "sync/atomic.AddInt32", "(*internal/sync.Mutex).Unlock", "internal/race.ReleaseMerge", "(*internal/sync.Mutex).unlockSlow", "internal/sync.fatal", "internal/sync.runtime_Semrelease", "sync/atomic.StoreUint32"], unfollowed := true, recurses := true, named := ["ciborium/crc.nought"], apart := false, laid := [("ciborium/crc.nought", laid_ciborium_crc_nought)], narrowed := true }
def StripeStaleUptoSaid : Prop := stripeStaleUptoRow.holds Tryz.pinned (OpenSpec.upto stripeStaleSpec)

end Rows
end Go.Proofs.YtajdholblmdnjaaGreatDoor
