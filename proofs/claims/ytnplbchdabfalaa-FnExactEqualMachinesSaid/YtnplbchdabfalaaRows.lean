/-
  No cell of these rows narrows 'for every input' (looked for: loops, veiled, ifaces, maps, wideKeys, modest, calm, conditions, laid).
  DERIVED. THE GIVEN ROWS OF THIS SEAT. 7 by the template 'for every input the law returns true; each argument reads behind the call as it read before'; 0 by the template 'total and deterministic' (their statements: YtnplbchdabfalaaTotals.lean).
  GIVEN WITH THE SEED: the statements are not yours to turn. If you find one false, say at which input.
  Laid BY PROGRAM, IN A SANDBOX (cutbox-rows.mjs): the forced cells as the released guide's own fill.sh prints them over the translation 3f304c6b1abaed8d… (all of the seat's roots in one cut). By AI agents, Wed Nov 11 2026. No macro, syntax, notation, axiom, sorry.
-/
import Derived.Test.YtnplbchdabfalaaChecked
import GoSem.Claim
import GoSem.ClaimJoined
import GoSem.ClaimMapViews
import Derived.JoinedTies
import Derived.KernelRfl
namespace Go.Proofs.Ytnplbchdabfalaa
/- THE CELL 'sum', in the pinned program and in every row, IS THE sha256 OF THE DUMP (.gsa) THAT YtnplbchdabfalaaProg.lean LOADS. Nothing in Lean hashes anything: it is a label: what it is worth is what the hold of that sum in a sandbox is worth. -/
noncomputable def Try.pinned : Pinned := { name := "ytnplbchdabfalaa", sum := "3f304c6b1abaed8d884025741b7bb4c7e6f6ec684cd5c52d07eafcd741fd5624", checked := Try.checked }
namespace Rows
def none {H : Type} : Left H := { results := [], args := [] }

/-- 'laws.FnMachine': WHATEVER THE INPUT: true; the input reads as it did. -/
def fnMachineSpec : ChangeSpec := { name := "fnMachine", fn := fun _ => fun
  | [d] => { results := [.lit (.bool true)], args := [d] }
  | _ => none }
def fnMachineRow : OpenClaim := { program := "ytnplbchdabfalaa", sum := "3f304c6b1abaed8d884025741b7bb4c7e6f6ec684cd5c52d07eafcd741fd5624", func := "loop.example/g01926/laws.FnMachine", spec := "fnMachine", unfollowed := true, recurses := true, apart := false }
def FnMachineSaid : Prop := fnMachineRow.holds Try.pinned (OpenSpec.ofChange fnMachineSpec)

/-- ITS FALSE NEIGHBOUR: 'it returns false'. Refute it at one input. -/
def fnMachineWrong : ChangeSpec := { name := "fnMachine", fn := fun _ => fun
  | [d] => { results := [.lit (.bool false)], args := [d] }
  | _ => none }
def FnMachineWrongFalsely : Prop := fnMachineRow.holds Try.pinned (OpenSpec.ofChange fnMachineWrong)

/-- 'laws.FnExactNewMachine': WHATEVER THE INPUT: true; the input reads as it did. -/
def fnExactNewMachineSpec : ChangeSpec := { name := "fnExactNewMachine", fn := fun _ => fun
  | [] => { results := [.lit (.bool true)], args := [] }
  | _ => none }
def fnExactNewMachineRow : OpenClaim := { program := "ytnplbchdabfalaa", sum := "3f304c6b1abaed8d884025741b7bb4c7e6f6ec684cd5c52d07eafcd741fd5624", func := "loop.example/g01926/laws.FnExactNewMachine", spec := "fnExactNewMachine", apart := false }
def FnExactNewMachineSaid : Prop := fnExactNewMachineRow.holds Try.pinned (OpenSpec.ofChange fnExactNewMachineSpec)

/-- ITS FALSE NEIGHBOUR: 'it returns false'. Refute it at one input. -/
def fnExactNewMachineWrong : ChangeSpec := { name := "fnExactNewMachine", fn := fun _ => fun
  | [] => { results := [.lit (.bool false)], args := [] }
  | _ => none }
def FnExactNewMachineWrongFalsely : Prop := fnExactNewMachineRow.holds Try.pinned (OpenSpec.ofChange fnExactNewMachineWrong)

/-- 'laws.FnExactIsValidMachine': WHATEVER THE INPUT: true; the input reads as it did. -/
def fnExactIsValidMachineSpec : ChangeSpec := { name := "fnExactIsValidMachine", fn := fun _ => fun
  | [d] => { results := [.lit (.bool true)], args := [d] }
  | _ => none }
def fnExactIsValidMachineRow : OpenClaim := { program := "ytnplbchdabfalaa", sum := "3f304c6b1abaed8d884025741b7bb4c7e6f6ec684cd5c52d07eafcd741fd5624", func := "loop.example/g01926/laws.FnExactIsValidMachine", spec := "fnExactIsValidMachine", apart := false }
def FnExactIsValidMachineSaid : Prop := fnExactIsValidMachineRow.holds Try.pinned (OpenSpec.ofChange fnExactIsValidMachineSpec)

/-- ITS FALSE NEIGHBOUR: 'it returns false'. Refute it at one input. -/
def fnExactIsValidMachineWrong : ChangeSpec := { name := "fnExactIsValidMachine", fn := fun _ => fun
  | [d] => { results := [.lit (.bool false)], args := [d] }
  | _ => none }
def FnExactIsValidMachineWrongFalsely : Prop := fnExactIsValidMachineRow.holds Try.pinned (OpenSpec.ofChange fnExactIsValidMachineWrong)

/-- 'laws.FnExactApplyOp': WHATEVER THE INPUT: true; the input reads as it did. -/
def fnExactApplyOpSpec : ChangeSpec := { name := "fnExactApplyOp", fn := fun _ => fun
  | [d1, d2] => { results := [.lit (.bool true)], args := [d1, d2] }
  | _ => none }
def fnExactApplyOpRow : OpenClaim := { program := "ytnplbchdabfalaa", sum := "3f304c6b1abaed8d884025741b7bb4c7e6f6ec684cd5c52d07eafcd741fd5624", func := "loop.example/g01926/laws.FnExactApplyOp", spec := "fnExactApplyOp", unfollowed := true, recurses := true, apart := false }
def FnExactApplyOpSaid : Prop := fnExactApplyOpRow.holds Try.pinned (OpenSpec.ofChange fnExactApplyOpSpec)

/-- ITS FALSE NEIGHBOUR: 'it returns false'. Refute it at one input. -/
def fnExactApplyOpWrong : ChangeSpec := { name := "fnExactApplyOp", fn := fun _ => fun
  | [d1, d2] => { results := [.lit (.bool false)], args := [d1, d2] }
  | _ => none }
def FnExactApplyOpWrongFalsely : Prop := fnExactApplyOpRow.holds Try.pinned (OpenSpec.ofChange fnExactApplyOpWrong)

/-- 'laws.FnExactSessionOf': WHATEVER THE INPUT: true; the input reads as it did. -/
def fnExactSessionOfSpec : ChangeSpec := { name := "fnExactSessionOf", fn := fun _ => fun
  | [d1, d2] => { results := [.lit (.bool true)], args := [d1, d2] }
  | _ => none }
def fnExactSessionOfRow : OpenClaim := { program := "ytnplbchdabfalaa", sum := "3f304c6b1abaed8d884025741b7bb4c7e6f6ec684cd5c52d07eafcd741fd5624", func := "loop.example/g01926/laws.FnExactSessionOf", spec := "fnExactSessionOf", apart := false }
def FnExactSessionOfSaid : Prop := fnExactSessionOfRow.holds Try.pinned (OpenSpec.ofChange fnExactSessionOfSpec)

/-- ITS FALSE NEIGHBOUR: 'it returns false'. Refute it at one input. -/
def fnExactSessionOfWrong : ChangeSpec := { name := "fnExactSessionOf", fn := fun _ => fun
  | [d1, d2] => { results := [.lit (.bool false)], args := [d1, d2] }
  | _ => none }
def FnExactSessionOfWrongFalsely : Prop := fnExactSessionOfRow.holds Try.pinned (OpenSpec.ofChange fnExactSessionOfWrong)

/-- 'laws.FnExactReadObject': WHATEVER THE INPUT: true; the input reads as it did. -/
def fnExactReadObjectSpec : ChangeSpec := { name := "fnExactReadObject", fn := fun _ => fun
  | [d1, d2] => { results := [.lit (.bool true)], args := [d1, d2] }
  | _ => none }
def fnExactReadObjectRow : OpenClaim := { program := "ytnplbchdabfalaa", sum := "3f304c6b1abaed8d884025741b7bb4c7e6f6ec684cd5c52d07eafcd741fd5624", func := "loop.example/g01926/laws.FnExactReadObject", spec := "fnExactReadObject", apart := false }
def FnExactReadObjectSaid : Prop := fnExactReadObjectRow.holds Try.pinned (OpenSpec.ofChange fnExactReadObjectSpec)

/-- ITS FALSE NEIGHBOUR: 'it returns false'. Refute it at one input. -/
def fnExactReadObjectWrong : ChangeSpec := { name := "fnExactReadObject", fn := fun _ => fun
  | [d1, d2] => { results := [.lit (.bool false)], args := [d1, d2] }
  | _ => none }
def FnExactReadObjectWrongFalsely : Prop := fnExactReadObjectRow.holds Try.pinned (OpenSpec.ofChange fnExactReadObjectWrong)

/-- 'laws.FnExactEqualMachines': WHATEVER THE INPUT: true; the input reads as it did. -/
def fnExactEqualMachinesSpec : ChangeSpec := { name := "fnExactEqualMachines", fn := fun _ => fun
  | [d1, d2] => { results := [.lit (.bool true)], args := [d1, d2] }
  | _ => none }
def fnExactEqualMachinesRow : OpenClaim := { program := "ytnplbchdabfalaa", sum := "3f304c6b1abaed8d884025741b7bb4c7e6f6ec684cd5c52d07eafcd741fd5624", func := "loop.example/g01926/laws.FnExactEqualMachines", spec := "fnExactEqualMachines", apart := false }
def FnExactEqualMachinesSaid : Prop := fnExactEqualMachinesRow.holds Try.pinned (OpenSpec.ofChange fnExactEqualMachinesSpec)

/-- ITS FALSE NEIGHBOUR: 'it returns false'. Refute it at one input. -/
def fnExactEqualMachinesWrong : ChangeSpec := { name := "fnExactEqualMachines", fn := fun _ => fun
  | [d1, d2] => { results := [.lit (.bool false)], args := [d1, d2] }
  | _ => none }
def FnExactEqualMachinesWrongFalsely : Prop := fnExactEqualMachinesRow.holds Try.pinned (OpenSpec.ofChange fnExactEqualMachinesWrong)

/- THE SECOND FORM. 'bulk': how many values and letters a reading holds, each counted each time it is reached (what is shared counts as often as it is met; a slice's spare places count too). A statement '..UptoSaid' is the law's where the arguments, and the package variables that the reading takes, are together of bulk at most 1048576: NARROWER than '..Said'. Prove '..Said' where nothing that the law and all that it calls make is longer than what came in: it says more and counts as full. Else prove '..UptoSaid'. A law counts once. -/
mutual
def uptoBulk {H : Type} : DataW H → Nat
  | .lit (.string bytes) => bytes.length + 1
  | .lit _ => 1
  | .nil => 1
  | .ptr d => uptoBulk d + 1
  | .slice elems spare => uptoBulkAll elems + uptoBulkAll spare + 1
  | .agg parts => uptoBulkAll parts + 1
  | .iface _ d => uptoBulk d + 1
  | .map entries => uptoBulkEntries entries + 1
  | .held _ => 1
def uptoBulkAll {H : Type} : List (DataW H) → Nat
  | [] => 0
  | d :: r => uptoBulk d + uptoBulkAll r
def uptoBulkEntries {H : Type} : List (Lit × DataW H) → Nat
  | [] => 0
  | x :: r => uptoBulkEntry x + uptoBulkEntries r
def uptoBulkEntry {H : Type} : Lit × DataW H → Nat
  | (.string bytes, d) => bytes.length + uptoBulk d + 1
  | (_, d) => uptoBulk d + 1
 end
def uptoSmall : (H : Type) → List (DataW H) → Bool := fun _ ds => decide (uptoBulkAll ds ≤ 1048576)
def OpenSpec.upto (s : _root_.Go.ChangeSpec) : _root_.Go.OpenSpec := { _root_.Go.OpenSpec.ofChange s with cond := some uptoSmall }

/-- 'laws.FnMachine', WHERE WHAT IT READS IS OF BULK AT MOST 1048576: true; the input reads as it did. -/
def fnMachineUptoRow : OpenClaim := { program := "ytnplbchdabfalaa", sum := "3f304c6b1abaed8d884025741b7bb4c7e6f6ec684cd5c52d07eafcd741fd5624", func := "loop.example/g01926/laws.FnMachine", spec := "fnMachine", unfollowed := true, recurses := true, apart := false, narrowed := true }
def FnMachineUptoSaid : Prop := fnMachineUptoRow.holds Try.pinned (OpenSpec.upto fnMachineSpec)

/-- 'laws.FnExactNewMachine', WHERE WHAT IT READS IS OF BULK AT MOST 1048576: true; the input reads as it did. -/
def fnExactNewMachineUptoRow : OpenClaim := { program := "ytnplbchdabfalaa", sum := "3f304c6b1abaed8d884025741b7bb4c7e6f6ec684cd5c52d07eafcd741fd5624", func := "loop.example/g01926/laws.FnExactNewMachine", spec := "fnExactNewMachine", apart := false, narrowed := true }
def FnExactNewMachineUptoSaid : Prop := fnExactNewMachineUptoRow.holds Try.pinned (OpenSpec.upto fnExactNewMachineSpec)

/-- 'laws.FnExactIsValidMachine', WHERE WHAT IT READS IS OF BULK AT MOST 1048576: true; the input reads as it did. -/
def fnExactIsValidMachineUptoRow : OpenClaim := { program := "ytnplbchdabfalaa", sum := "3f304c6b1abaed8d884025741b7bb4c7e6f6ec684cd5c52d07eafcd741fd5624", func := "loop.example/g01926/laws.FnExactIsValidMachine", spec := "fnExactIsValidMachine", apart := false, narrowed := true }
def FnExactIsValidMachineUptoSaid : Prop := fnExactIsValidMachineUptoRow.holds Try.pinned (OpenSpec.upto fnExactIsValidMachineSpec)

/-- 'laws.FnExactApplyOp', WHERE WHAT IT READS IS OF BULK AT MOST 1048576: true; the input reads as it did. -/
def fnExactApplyOpUptoRow : OpenClaim := { program := "ytnplbchdabfalaa", sum := "3f304c6b1abaed8d884025741b7bb4c7e6f6ec684cd5c52d07eafcd741fd5624", func := "loop.example/g01926/laws.FnExactApplyOp", spec := "fnExactApplyOp", unfollowed := true, recurses := true, apart := false, narrowed := true }
def FnExactApplyOpUptoSaid : Prop := fnExactApplyOpUptoRow.holds Try.pinned (OpenSpec.upto fnExactApplyOpSpec)

/-- 'laws.FnExactSessionOf', WHERE WHAT IT READS IS OF BULK AT MOST 1048576: true; the input reads as it did. -/
def fnExactSessionOfUptoRow : OpenClaim := { program := "ytnplbchdabfalaa", sum := "3f304c6b1abaed8d884025741b7bb4c7e6f6ec684cd5c52d07eafcd741fd5624", func := "loop.example/g01926/laws.FnExactSessionOf", spec := "fnExactSessionOf", apart := false, narrowed := true }
def FnExactSessionOfUptoSaid : Prop := fnExactSessionOfUptoRow.holds Try.pinned (OpenSpec.upto fnExactSessionOfSpec)

/-- 'laws.FnExactReadObject', WHERE WHAT IT READS IS OF BULK AT MOST 1048576: true; the input reads as it did. -/
def fnExactReadObjectUptoRow : OpenClaim := { program := "ytnplbchdabfalaa", sum := "3f304c6b1abaed8d884025741b7bb4c7e6f6ec684cd5c52d07eafcd741fd5624", func := "loop.example/g01926/laws.FnExactReadObject", spec := "fnExactReadObject", apart := false, narrowed := true }
def FnExactReadObjectUptoSaid : Prop := fnExactReadObjectUptoRow.holds Try.pinned (OpenSpec.upto fnExactReadObjectSpec)

/-- 'laws.FnExactEqualMachines', WHERE WHAT IT READS IS OF BULK AT MOST 1048576: true; the input reads as it did. -/
def fnExactEqualMachinesUptoRow : OpenClaim := { program := "ytnplbchdabfalaa", sum := "3f304c6b1abaed8d884025741b7bb4c7e6f6ec684cd5c52d07eafcd741fd5624", func := "loop.example/g01926/laws.FnExactEqualMachines", spec := "fnExactEqualMachines", apart := false, narrowed := true }
def FnExactEqualMachinesUptoSaid : Prop := fnExactEqualMachinesUptoRow.holds Try.pinned (OpenSpec.upto fnExactEqualMachinesSpec)

end Rows
end Go.Proofs.Ytnplbchdabfalaa
