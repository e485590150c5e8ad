/-
  No cell of these rows narrows 'for every input' (looked for: loops, veiled, ifaces, maps, wideKeys, modest, calm, conditions, laid).
  DERIVED. THE GIVEN ROWS OF THIS SEAT. 5 by the template 'for every input the law returns true; each argument reads behind the call as it read before'; 0 by the template 'total and deterministic' (their statements: YtgjebjoaemeeoaaTotals.lean).
  GIVEN WITH THE SEED: the statements are not yours to turn. If you find one false, say at which input.
  Laid BY PROGRAM, IN A SANDBOX (cutbox-rows.mjs): the forced cells as the released guide's own fill.sh prints them over the translation 3fb339a700c90e97… (all of the seat's roots in one cut). By AI agents, Wed Nov 11 2026. No macro, syntax, notation, axiom, sorry.
-/
import Derived.Test.YtgjebjoaemeeoaaChecked
import GoSem.Claim
import GoSem.ClaimJoined
import GoSem.ClaimMapViews
import Derived.JoinedTies
import Derived.KernelRfl
namespace Go.Proofs.Ytgjebjoaemeeoaa
/- THE CELL 'sum', in the pinned program and in every row, IS THE sha256 OF THE DUMP (.gsa) THAT YtgjebjoaemeeoaaProg.lean LOADS. Nothing in Lean hashes anything: it is a label: what it is worth is what the hold of that sum in a sandbox is worth. -/
noncomputable def Try.pinned : Pinned := { name := "ytgjebjoaemeeoaa", sum := "3fb339a700c90e974179c2a32c6553ae541177d04ea4de807ac77dbc9fdc51b0", checked := Try.checked }
namespace Rows
def none {H : Type} : Left H := { results := [], args := [] }

/-- 'laws.FnAcceptors': WHATEVER THE INPUT: true; the input reads as it did. -/
def fnAcceptorsSpec : ChangeSpec := { name := "fnAcceptors", fn := fun _ => fun
  | [d] => { results := [.lit (.bool true)], args := [d] }
  | _ => none }
def fnAcceptorsRow : OpenClaim := { program := "ytgjebjoaemeeoaa", sum := "3fb339a700c90e974179c2a32c6553ae541177d04ea4de807ac77dbc9fdc51b0", func := "loop.example/g01926/laws.FnAcceptors", spec := "fnAcceptors", inPlace := ["(*internal/sync.Mutex).Lock", "internal/race.Disable", "sync/atomic.CompareAndSwapInt32", "internal/race.Enable", "internal/race.Acquire", "(*internal/sync.Mutex).lockSlow", "internal/sync.runtime_canSpin", "internal/sync.runtime_doSpin", "internal/sync.throw", "internal/sync.runtime_nanotime", "internal/sync.runtime_SemacquireMutex", "sync/atomic.AddInt32", "(*internal/sync.Mutex).Unlock", "internal/race.ReleaseMerge", "(*internal/sync.Mutex).unlockSlow", "internal/sync.fatal", "internal/sync.runtime_Semrelease"], apart := false }
def FnAcceptorsSaid : Prop := fnAcceptorsRow.holds Try.pinned (OpenSpec.ofChange fnAcceptorsSpec)

/-- ITS FALSE NEIGHBOUR: 'it returns false'. Refute it at one input. -/
def fnAcceptorsWrong : ChangeSpec := { name := "fnAcceptors", fn := fun _ => fun
  | [d] => { results := [.lit (.bool false)], args := [d] }
  | _ => none }
def FnAcceptorsWrongFalsely : Prop := fnAcceptorsRow.holds Try.pinned (OpenSpec.ofChange fnAcceptorsWrong)

/-- 'laws.FnExactIsValidAcceptor': WHATEVER THE INPUT: true; the input reads as it did. -/
def fnExactIsValidAcceptorSpec : ChangeSpec := { name := "fnExactIsValidAcceptor", fn := fun _ => fun
  | [d] => { results := [.lit (.bool true)], args := [d] }
  | _ => none }
def fnExactIsValidAcceptorRow : OpenClaim := { program := "ytgjebjoaemeeoaa", sum := "3fb339a700c90e974179c2a32c6553ae541177d04ea4de807ac77dbc9fdc51b0", func := "loop.example/g01926/laws.FnExactIsValidAcceptor", spec := "fnExactIsValidAcceptor", apart := false }
def FnExactIsValidAcceptorSaid : Prop := fnExactIsValidAcceptorRow.holds Try.pinned (OpenSpec.ofChange fnExactIsValidAcceptorSpec)

/-- ITS FALSE NEIGHBOUR: 'it returns false'. Refute it at one input. -/
def fnExactIsValidAcceptorWrong : ChangeSpec := { name := "fnExactIsValidAcceptor", fn := fun _ => fun
  | [d] => { results := [.lit (.bool false)], args := [d] }
  | _ => none }
def FnExactIsValidAcceptorWrongFalsely : Prop := fnExactIsValidAcceptorRow.holds Try.pinned (OpenSpec.ofChange fnExactIsValidAcceptorWrong)

/-- 'laws.FnExactPrepare': WHATEVER THE INPUT: true; the input reads as it did. -/
def fnExactPrepareSpec : ChangeSpec := { name := "fnExactPrepare", fn := fun _ => fun
  | [d1, d2] => { results := [.lit (.bool true)], args := [d1, d2] }
  | _ => none }
def fnExactPrepareRow : OpenClaim := { program := "ytgjebjoaemeeoaa", sum := "3fb339a700c90e974179c2a32c6553ae541177d04ea4de807ac77dbc9fdc51b0", func := "loop.example/g01926/laws.FnExactPrepare", spec := "fnExactPrepare", inPlace := ["(*internal/sync.Mutex).Lock", "internal/race.Disable", "sync/atomic.CompareAndSwapInt32", "internal/race.Enable", "internal/race.Acquire", "(*internal/sync.Mutex).lockSlow", "internal/sync.runtime_canSpin", "internal/sync.runtime_doSpin", "internal/sync.throw", "internal/sync.runtime_nanotime", "internal/sync.runtime_SemacquireMutex", "sync/atomic.AddInt32", "(*internal/sync.Mutex).Unlock", "internal/race.ReleaseMerge", "(*internal/sync.Mutex).unlockSlow", "internal/sync.fatal", "internal/sync.runtime_Semrelease"], apart := false }
def FnExactPrepareSaid : Prop := fnExactPrepareRow.holds Try.pinned (OpenSpec.ofChange fnExactPrepareSpec)

/-- ITS FALSE NEIGHBOUR: 'it returns false'. Refute it at one input. -/
def fnExactPrepareWrong : ChangeSpec := { name := "fnExactPrepare", fn := fun _ => fun
  | [d1, d2] => { results := [.lit (.bool false)], args := [d1, d2] }
  | _ => none }
def FnExactPrepareWrongFalsely : Prop := fnExactPrepareRow.holds Try.pinned (OpenSpec.ofChange fnExactPrepareWrong)

/-- 'laws.FnExactAccept': WHATEVER THE INPUT: true; the input reads as it did. -/
def fnExactAcceptSpec : ChangeSpec := { name := "fnExactAccept", fn := fun _ => fun
  | [d1, d2, d3] => { results := [.lit (.bool true)], args := [d1, d2, d3] }
  | _ => none }
def fnExactAcceptRow : OpenClaim := { program := "ytgjebjoaemeeoaa", sum := "3fb339a700c90e974179c2a32c6553ae541177d04ea4de807ac77dbc9fdc51b0", func := "loop.example/g01926/laws.FnExactAccept", spec := "fnExactAccept", inPlace := ["(*internal/sync.Mutex).Lock", "internal/race.Disable", "sync/atomic.CompareAndSwapInt32", "internal/race.Enable", "internal/race.Acquire", "(*internal/sync.Mutex).lockSlow", "internal/sync.runtime_canSpin", "internal/sync.runtime_doSpin", "internal/sync.throw", "internal/sync.runtime_nanotime", "internal/sync.runtime_SemacquireMutex", "sync/atomic.AddInt32", "(*internal/sync.Mutex).Unlock", "internal/race.ReleaseMerge", "(*internal/sync.Mutex).unlockSlow", "internal/sync.fatal", "internal/sync.runtime_Semrelease"], apart := false }
def FnExactAcceptSaid : Prop := fnExactAcceptRow.holds Try.pinned (OpenSpec.ofChange fnExactAcceptSpec)

/-- ITS FALSE NEIGHBOUR: 'it returns false'. Refute it at one input. -/
def fnExactAcceptWrong : ChangeSpec := { name := "fnExactAccept", fn := fun _ => fun
  | [d1, d2, d3] => { results := [.lit (.bool false)], args := [d1, d2, d3] }
  | _ => none }
def FnExactAcceptWrongFalsely : Prop := fnExactAcceptRow.holds Try.pinned (OpenSpec.ofChange fnExactAcceptWrong)

/-- 'laws.FnExactEqualAcceptors': WHATEVER THE INPUT: true; the input reads as it did. -/
def fnExactEqualAcceptorsSpec : ChangeSpec := { name := "fnExactEqualAcceptors", fn := fun _ => fun
  | [d1, d2] => { results := [.lit (.bool true)], args := [d1, d2] }
  | _ => none }
def fnExactEqualAcceptorsRow : OpenClaim := { program := "ytgjebjoaemeeoaa", sum := "3fb339a700c90e974179c2a32c6553ae541177d04ea4de807ac77dbc9fdc51b0", func := "loop.example/g01926/laws.FnExactEqualAcceptors", spec := "fnExactEqualAcceptors", apart := false }
def FnExactEqualAcceptorsSaid : Prop := fnExactEqualAcceptorsRow.holds Try.pinned (OpenSpec.ofChange fnExactEqualAcceptorsSpec)

/-- ITS FALSE NEIGHBOUR: 'it returns false'. Refute it at one input. -/
def fnExactEqualAcceptorsWrong : ChangeSpec := { name := "fnExactEqualAcceptors", fn := fun _ => fun
  | [d1, d2] => { results := [.lit (.bool false)], args := [d1, d2] }
  | _ => none }
def FnExactEqualAcceptorsWrongFalsely : Prop := fnExactEqualAcceptorsRow.holds Try.pinned (OpenSpec.ofChange fnExactEqualAcceptorsWrong)

/- THE SECOND FORM. 'bulk': how many values and letters a reading holds, each counted each time it is reached (what is shared counts as often as it is met; a slice's spare places count too). A statement '..UptoSaid' is the law's where the arguments, and the package variables that the reading takes, are together of bulk at most 1048576: NARROWER than '..Said'. Prove '..Said' where nothing that the law and all that it calls make is longer than what came in: it says more and counts as full. Else prove '..UptoSaid'. A law counts once. -/
mutual
def uptoBulk {H : Type} : DataW H → Nat
  | .lit (.string bytes) => bytes.length + 1
  | .lit _ => 1
  | .nil => 1
  | .ptr d => uptoBulk d + 1
  | .slice elems spare => uptoBulkAll elems + uptoBulkAll spare + 1
  | .agg parts => uptoBulkAll parts + 1
  | .iface _ d => uptoBulk d + 1
  | .map entries => uptoBulkEntries entries + 1
  | .held _ => 1
def uptoBulkAll {H : Type} : List (DataW H) → Nat
  | [] => 0
  | d :: r => uptoBulk d + uptoBulkAll r
def uptoBulkEntries {H : Type} : List (Lit × DataW H) → Nat
  | [] => 0
  | x :: r => uptoBulkEntry x + uptoBulkEntries r
def uptoBulkEntry {H : Type} : Lit × DataW H → Nat
  | (.string bytes, d) => bytes.length + uptoBulk d + 1
  | (_, d) => uptoBulk d + 1
 end
def uptoSmall : (H : Type) → List (DataW H) → Bool := fun _ ds => decide (uptoBulkAll ds ≤ 1048576)
def OpenSpec.upto (s : _root_.Go.ChangeSpec) : _root_.Go.OpenSpec := { _root_.Go.OpenSpec.ofChange s with cond := some uptoSmall }

/-- 'laws.FnAcceptors', WHERE WHAT IT READS IS OF BULK AT MOST 1048576: true; the input reads as it did. -/
def fnAcceptorsUptoRow : OpenClaim := { program := "ytgjebjoaemeeoaa", sum := "3fb339a700c90e974179c2a32c6553ae541177d04ea4de807ac77dbc9fdc51b0", func := "loop.example/g01926/laws.FnAcceptors", spec := "fnAcceptors", inPlace := ["(*internal/sync.Mutex).Lock", "internal/race.Disable", "sync/atomic.CompareAndSwapInt32", "internal/race.Enable", "internal/race.Acquire", "(*internal/sync.Mutex).lockSlow", "internal/sync.runtime_canSpin", "internal/sync.runtime_doSpin", "internal/sync.throw", "internal/sync.runtime_nanotime", "internal/sync.runtime_SemacquireMutex", "sync/atomic.AddInt32", "(*internal/sync.Mutex).Unlock", "internal/race.ReleaseMerge", "(*internal/sync.Mutex).unlockSlow", "internal/sync.fatal", "internal/sync.runtime_Semrelease"], apart := false, narrowed := true }
def FnAcceptorsUptoSaid : Prop := fnAcceptorsUptoRow.holds Try.pinned (OpenSpec.upto fnAcceptorsSpec)

/-- 'laws.FnExactIsValidAcceptor', WHERE WHAT IT READS IS OF BULK AT MOST 1048576: true; the input reads as it did. -/
def fnExactIsValidAcceptorUptoRow : OpenClaim := { program := "ytgjebjoaemeeoaa", sum := "3fb339a700c90e974179c2a32c6553ae541177d04ea4de807ac77dbc9fdc51b0", func := "loop.example/g01926/laws.FnExactIsValidAcceptor", spec := "fnExactIsValidAcceptor", apart := false, narrowed := true }
def FnExactIsValidAcceptorUptoSaid : Prop := fnExactIsValidAcceptorUptoRow.holds Try.pinned (OpenSpec.upto fnExactIsValidAcceptorSpec)

/-- 'laws.FnExactPrepare', WHERE WHAT IT READS IS OF BULK AT MOST 1048576: true; the input reads as it did. -/
def fnExactPrepareUptoRow : OpenClaim := { program := "ytgjebjoaemeeoaa", sum := "3fb339a700c90e974179c2a32c6553ae541177d04ea4de807ac77dbc9fdc51b0", func := "loop.example/g01926/laws.FnExactPrepare", spec := "fnExactPrepare", inPlace := ["(*internal/sync.Mutex).Lock", "internal/race.Disable", "sync/atomic.CompareAndSwapInt32", "internal/race.Enable", "internal/race.Acquire", "(*internal/sync.Mutex).lockSlow", "internal/sync.runtime_canSpin", "internal/sync.runtime_doSpin", "internal/sync.throw", "internal/sync.runtime_nanotime", "internal/sync.runtime_SemacquireMutex", "sync/atomic.AddInt32", "(*internal/sync.Mutex).Unlock", "internal/race.ReleaseMerge", "(*internal/sync.Mutex).unlockSlow", "internal/sync.fatal", "internal/sync.runtime_Semrelease"], apart := false, narrowed := true }
def FnExactPrepareUptoSaid : Prop := fnExactPrepareUptoRow.holds Try.pinned (OpenSpec.upto fnExactPrepareSpec)

/-- 'laws.FnExactAccept', WHERE WHAT IT READS IS OF BULK AT MOST 1048576: true; the input reads as it did. -/
def fnExactAcceptUptoRow : OpenClaim := { program := "ytgjebjoaemeeoaa", sum := "3fb339a700c90e974179c2a32c6553ae541177d04ea4de807ac77dbc9fdc51b0", func := "loop.example/g01926/laws.FnExactAccept", spec := "fnExactAccept", inPlace := ["(*internal/sync.Mutex).Lock", "internal/race.Disable", "sync/atomic.CompareAndSwapInt32", "internal/race.Enable", "internal/race.Acquire", "(*internal/sync.Mutex).lockSlow", "internal/sync.runtime_canSpin", "internal/sync.runtime_doSpin", "internal/sync.throw", "internal/sync.runtime_nanotime", "internal/sync.runtime_SemacquireMutex", "sync/atomic.AddInt32", "(*internal/sync.Mutex).Unlock", "internal/race.ReleaseMerge", "(*internal/sync.Mutex).unlockSlow", "internal/sync.fatal", "internal/sync.runtime_Semrelease"], apart := false, narrowed := true }
def FnExactAcceptUptoSaid : Prop := fnExactAcceptUptoRow.holds Try.pinned (OpenSpec.upto fnExactAcceptSpec)

/-- 'laws.FnExactEqualAcceptors', WHERE WHAT IT READS IS OF BULK AT MOST 1048576: true; the input reads as it did. -/
def fnExactEqualAcceptorsUptoRow : OpenClaim := { program := "ytgjebjoaemeeoaa", sum := "3fb339a700c90e974179c2a32c6553ae541177d04ea4de807ac77dbc9fdc51b0", func := "loop.example/g01926/laws.FnExactEqualAcceptors", spec := "fnExactEqualAcceptors", apart := false, narrowed := true }
def FnExactEqualAcceptorsUptoSaid : Prop := fnExactEqualAcceptorsUptoRow.holds Try.pinned (OpenSpec.upto fnExactEqualAcceptorsSpec)

end Rows
end Go.Proofs.Ytgjebjoaemeeoaa
