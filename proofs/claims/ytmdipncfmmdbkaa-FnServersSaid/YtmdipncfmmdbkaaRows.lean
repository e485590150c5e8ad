/-
  No cell of these rows narrows 'for every input' (looked for: loops, veiled, ifaces, maps, wideKeys, modest, calm, conditions, laid).
  DERIVED. THE GIVEN ROWS OF THIS SEAT. 9 by the template 'for every input the law returns true; each argument reads behind the call as it read before'; 0 by the template 'total and deterministic' (their statements: YtmdipncfmmdbkaaTotals.lean).
  GIVEN WITH THE SEED: the statements are not yours to turn. If you find one false, say at which input.
  Laid BY PROGRAM, IN A SANDBOX (cutbox-rows.mjs): the forced cells as the released guide's own fill.sh prints them over the translation dd46968483cd851c… (all of the seat's roots in one cut). By AI agents, Wed Nov 11 2026. No macro, syntax, notation, axiom, sorry.
-/
import Derived.Test.YtmdipncfmmdbkaaChecked
import GoSem.Claim
import GoSem.ClaimJoined
import GoSem.ClaimMapViews
import Derived.JoinedTies
import Derived.KernelRfl
namespace Go.Proofs.Ytmdipncfmmdbkaa
/- THE CELL 'sum', in the pinned program and in every row, IS THE sha256 OF THE DUMP (.gsa) THAT YtmdipncfmmdbkaaProg.lean LOADS. Nothing in Lean hashes anything: it is a label: what it is worth is what the hold of that sum in a sandbox is worth. -/
noncomputable def Try.pinned : Pinned := { name := "ytmdipncfmmdbkaa", sum := "dd46968483cd851c34ff3140cb6122665a6eea71cbd0a8e75b741832f1f7086a", checked := Try.checked }
namespace Rows
def none {H : Type} : Left H := { results := [], args := [] }

/-- 'laws.FnServers': WHATEVER THE INPUT: true; the input reads as it did. -/
def fnServersSpec : ChangeSpec := { name := "fnServers", fn := fun _ => fun
  | [d] => { results := [.lit (.bool true)], args := [d] }
  | _ => none }
def fnServersRow : OpenClaim := { program := "ytmdipncfmmdbkaa", sum := "dd46968483cd851c34ff3140cb6122665a6eea71cbd0a8e75b741832f1f7086a", func := "loop.example/g01926/laws.FnServers", spec := "fnServers", recurses := true, apart := false }
def FnServersSaid : Prop := fnServersRow.holds Try.pinned (OpenSpec.ofChange fnServersSpec)

/-- ITS FALSE NEIGHBOUR: 'it returns false'. Refute it at one input. -/
def fnServersWrong : ChangeSpec := { name := "fnServers", fn := fun _ => fun
  | [d] => { results := [.lit (.bool false)], args := [d] }
  | _ => none }
def FnServersWrongFalsely : Prop := fnServersRow.holds Try.pinned (OpenSpec.ofChange fnServersWrong)

/-- 'laws.FnExactAreServers': WHATEVER THE INPUT: true; the input reads as it did. -/
def fnExactAreServersSpec : ChangeSpec := { name := "fnExactAreServers", fn := fun _ => fun
  | [d] => { results := [.lit (.bool true)], args := [d] }
  | _ => none }
def fnExactAreServersRow : OpenClaim := { program := "ytmdipncfmmdbkaa", sum := "dd46968483cd851c34ff3140cb6122665a6eea71cbd0a8e75b741832f1f7086a", func := "loop.example/g01926/laws.FnExactAreServers", spec := "fnExactAreServers", apart := false }
def FnExactAreServersSaid : Prop := fnExactAreServersRow.holds Try.pinned (OpenSpec.ofChange fnExactAreServersSpec)

/-- ITS FALSE NEIGHBOUR: 'it returns false'. Refute it at one input. -/
def fnExactAreServersWrong : ChangeSpec := { name := "fnExactAreServers", fn := fun _ => fun
  | [d] => { results := [.lit (.bool false)], args := [d] }
  | _ => none }
def FnExactAreServersWrongFalsely : Prop := fnExactAreServersRow.holds Try.pinned (OpenSpec.ofChange fnExactAreServersWrong)

/-- 'laws.FnExactHasServer': WHATEVER THE INPUT: true; the input reads as it did. -/
def fnExactHasServerSpec : ChangeSpec := { name := "fnExactHasServer", fn := fun _ => fun
  | [d1, d2] => { results := [.lit (.bool true)], args := [d1, d2] }
  | _ => none }
def fnExactHasServerRow : OpenClaim := { program := "ytmdipncfmmdbkaa", sum := "dd46968483cd851c34ff3140cb6122665a6eea71cbd0a8e75b741832f1f7086a", func := "loop.example/g01926/laws.FnExactHasServer", spec := "fnExactHasServer", apart := false }
def FnExactHasServerSaid : Prop := fnExactHasServerRow.holds Try.pinned (OpenSpec.ofChange fnExactHasServerSpec)

/-- ITS FALSE NEIGHBOUR: 'it returns false'. Refute it at one input. -/
def fnExactHasServerWrong : ChangeSpec := { name := "fnExactHasServer", fn := fun _ => fun
  | [d1, d2] => { results := [.lit (.bool false)], args := [d1, d2] }
  | _ => none }
def FnExactHasServerWrongFalsely : Prop := fnExactHasServerRow.holds Try.pinned (OpenSpec.ofChange fnExactHasServerWrong)

/-- 'laws.FnExactUniteServers': WHATEVER THE INPUT: true; the input reads as it did. -/
def fnExactUniteServersSpec : ChangeSpec := { name := "fnExactUniteServers", fn := fun _ => fun
  | [d1, d2] => { results := [.lit (.bool true)], args := [d1, d2] }
  | _ => none }
def fnExactUniteServersRow : OpenClaim := { program := "ytmdipncfmmdbkaa", sum := "dd46968483cd851c34ff3140cb6122665a6eea71cbd0a8e75b741832f1f7086a", func := "loop.example/g01926/laws.FnExactUniteServers", spec := "fnExactUniteServers", recurses := true, apart := false }
def FnExactUniteServersSaid : Prop := fnExactUniteServersRow.holds Try.pinned (OpenSpec.ofChange fnExactUniteServersSpec)

/-- ITS FALSE NEIGHBOUR: 'it returns false'. Refute it at one input. -/
def fnExactUniteServersWrong : ChangeSpec := { name := "fnExactUniteServers", fn := fun _ => fun
  | [d1, d2] => { results := [.lit (.bool false)], args := [d1, d2] }
  | _ => none }
def FnExactUniteServersWrongFalsely : Prop := fnExactUniteServersRow.holds Try.pinned (OpenSpec.ofChange fnExactUniteServersWrong)

/-- 'laws.FnExactCommonServers': WHATEVER THE INPUT: true; the input reads as it did. -/
def fnExactCommonServersSpec : ChangeSpec := { name := "fnExactCommonServers", fn := fun _ => fun
  | [d1, d2] => { results := [.lit (.bool true)], args := [d1, d2] }
  | _ => none }
def fnExactCommonServersRow : OpenClaim := { program := "ytmdipncfmmdbkaa", sum := "dd46968483cd851c34ff3140cb6122665a6eea71cbd0a8e75b741832f1f7086a", func := "loop.example/g01926/laws.FnExactCommonServers", spec := "fnExactCommonServers", recurses := true, apart := false }
def FnExactCommonServersSaid : Prop := fnExactCommonServersRow.holds Try.pinned (OpenSpec.ofChange fnExactCommonServersSpec)

/-- ITS FALSE NEIGHBOUR: 'it returns false'. Refute it at one input. -/
def fnExactCommonServersWrong : ChangeSpec := { name := "fnExactCommonServers", fn := fun _ => fun
  | [d1, d2] => { results := [.lit (.bool false)], args := [d1, d2] }
  | _ => none }
def FnExactCommonServersWrongFalsely : Prop := fnExactCommonServersRow.holds Try.pinned (OpenSpec.ofChange fnExactCommonServersWrong)

/-- 'laws.FnExactWithoutServers': WHATEVER THE INPUT: true; the input reads as it did. -/
def fnExactWithoutServersSpec : ChangeSpec := { name := "fnExactWithoutServers", fn := fun _ => fun
  | [d1, d2] => { results := [.lit (.bool true)], args := [d1, d2] }
  | _ => none }
def fnExactWithoutServersRow : OpenClaim := { program := "ytmdipncfmmdbkaa", sum := "dd46968483cd851c34ff3140cb6122665a6eea71cbd0a8e75b741832f1f7086a", func := "loop.example/g01926/laws.FnExactWithoutServers", spec := "fnExactWithoutServers", recurses := true, apart := false }
def FnExactWithoutServersSaid : Prop := fnExactWithoutServersRow.holds Try.pinned (OpenSpec.ofChange fnExactWithoutServersSpec)

/-- ITS FALSE NEIGHBOUR: 'it returns false'. Refute it at one input. -/
def fnExactWithoutServersWrong : ChangeSpec := { name := "fnExactWithoutServers", fn := fun _ => fun
  | [d1, d2] => { results := [.lit (.bool false)], args := [d1, d2] }
  | _ => none }
def FnExactWithoutServersWrongFalsely : Prop := fnExactWithoutServersRow.holds Try.pinned (OpenSpec.ofChange fnExactWithoutServersWrong)

/-- 'laws.FnExactEqualServers': WHATEVER THE INPUT: true; the input reads as it did. -/
def fnExactEqualServersSpec : ChangeSpec := { name := "fnExactEqualServers", fn := fun _ => fun
  | [d1, d2] => { results := [.lit (.bool true)], args := [d1, d2] }
  | _ => none }
def fnExactEqualServersRow : OpenClaim := { program := "ytmdipncfmmdbkaa", sum := "dd46968483cd851c34ff3140cb6122665a6eea71cbd0a8e75b741832f1f7086a", func := "loop.example/g01926/laws.FnExactEqualServers", spec := "fnExactEqualServers", apart := false }
def FnExactEqualServersSaid : Prop := fnExactEqualServersRow.holds Try.pinned (OpenSpec.ofChange fnExactEqualServersSpec)

/-- ITS FALSE NEIGHBOUR: 'it returns false'. Refute it at one input. -/
def fnExactEqualServersWrong : ChangeSpec := { name := "fnExactEqualServers", fn := fun _ => fun
  | [d1, d2] => { results := [.lit (.bool false)], args := [d1, d2] }
  | _ => none }
def FnExactEqualServersWrongFalsely : Prop := fnExactEqualServersRow.holds Try.pinned (OpenSpec.ofChange fnExactEqualServersWrong)

/-- 'laws.FnExactFormatServers': WHATEVER THE INPUT: true; the input reads as it did. -/
def fnExactFormatServersSpec : ChangeSpec := { name := "fnExactFormatServers", fn := fun _ => fun
  | [d] => { results := [.lit (.bool true)], args := [d] }
  | _ => none }
def fnExactFormatServersRow : OpenClaim := { program := "ytmdipncfmmdbkaa", sum := "dd46968483cd851c34ff3140cb6122665a6eea71cbd0a8e75b741832f1f7086a", func := "loop.example/g01926/laws.FnExactFormatServers", spec := "fnExactFormatServers", apart := false }
def FnExactFormatServersSaid : Prop := fnExactFormatServersRow.holds Try.pinned (OpenSpec.ofChange fnExactFormatServersSpec)

/-- ITS FALSE NEIGHBOUR: 'it returns false'. Refute it at one input. -/
def fnExactFormatServersWrong : ChangeSpec := { name := "fnExactFormatServers", fn := fun _ => fun
  | [d] => { results := [.lit (.bool false)], args := [d] }
  | _ => none }
def FnExactFormatServersWrongFalsely : Prop := fnExactFormatServersRow.holds Try.pinned (OpenSpec.ofChange fnExactFormatServersWrong)

/-- 'laws.FnExactParseServers': WHATEVER THE INPUT: true; the input reads as it did. -/
def fnExactParseServersSpec : ChangeSpec := { name := "fnExactParseServers", fn := fun _ => fun
  | [d] => { results := [.lit (.bool true)], args := [d] }
  | _ => none }
def fnExactParseServersRow : OpenClaim := { program := "ytmdipncfmmdbkaa", sum := "dd46968483cd851c34ff3140cb6122665a6eea71cbd0a8e75b741832f1f7086a", func := "loop.example/g01926/laws.FnExactParseServers", spec := "fnExactParseServers", apart := false }
def FnExactParseServersSaid : Prop := fnExactParseServersRow.holds Try.pinned (OpenSpec.ofChange fnExactParseServersSpec)

/-- ITS FALSE NEIGHBOUR: 'it returns false'. Refute it at one input. -/
def fnExactParseServersWrong : ChangeSpec := { name := "fnExactParseServers", fn := fun _ => fun
  | [d] => { results := [.lit (.bool false)], args := [d] }
  | _ => none }
def FnExactParseServersWrongFalsely : Prop := fnExactParseServersRow.holds Try.pinned (OpenSpec.ofChange fnExactParseServersWrong)

/- THE SECOND FORM. 'bulk': how many values and letters a reading holds, each counted each time it is reached (what is shared counts as often as it is met; a slice's spare places count too). A statement '..UptoSaid' is the law's where the arguments, and the package variables that the reading takes, are together of bulk at most 1048576: NARROWER than '..Said'. Prove '..Said' where nothing that the law and all that it calls make is longer than what came in: it says more and counts as full. Else prove '..UptoSaid'. A law counts once. -/
mutual
def uptoBulk {H : Type} : DataW H → Nat
  | .lit (.string bytes) => bytes.length + 1
  | .lit _ => 1
  | .nil => 1
  | .ptr d => uptoBulk d + 1
  | .slice elems spare => uptoBulkAll elems + uptoBulkAll spare + 1
  | .agg parts => uptoBulkAll parts + 1
  | .iface _ d => uptoBulk d + 1
  | .map entries => uptoBulkEntries entries + 1
  | .held _ => 1
def uptoBulkAll {H : Type} : List (DataW H) → Nat
  | [] => 0
  | d :: r => uptoBulk d + uptoBulkAll r
def uptoBulkEntries {H : Type} : List (Lit × DataW H) → Nat
  | [] => 0
  | x :: r => uptoBulkEntry x + uptoBulkEntries r
def uptoBulkEntry {H : Type} : Lit × DataW H → Nat
  | (.string bytes, d) => bytes.length + uptoBulk d + 1
  | (_, d) => uptoBulk d + 1
 end
def uptoSmall : (H : Type) → List (DataW H) → Bool := fun _ ds => decide (uptoBulkAll ds ≤ 1048576)
def OpenSpec.upto (s : _root_.Go.ChangeSpec) : _root_.Go.OpenSpec := { _root_.Go.OpenSpec.ofChange s with cond := some uptoSmall }

/-- 'laws.FnServers', WHERE WHAT IT READS IS OF BULK AT MOST 1048576: true; the input reads as it did. -/
def fnServersUptoRow : OpenClaim := { program := "ytmdipncfmmdbkaa", sum := "dd46968483cd851c34ff3140cb6122665a6eea71cbd0a8e75b741832f1f7086a", func := "loop.example/g01926/laws.FnServers", spec := "fnServers", recurses := true, apart := false, narrowed := true }
def FnServersUptoSaid : Prop := fnServersUptoRow.holds Try.pinned (OpenSpec.upto fnServersSpec)

/-- 'laws.FnExactAreServers', WHERE WHAT IT READS IS OF BULK AT MOST 1048576: true; the input reads as it did. -/
def fnExactAreServersUptoRow : OpenClaim := { program := "ytmdipncfmmdbkaa", sum := "dd46968483cd851c34ff3140cb6122665a6eea71cbd0a8e75b741832f1f7086a", func := "loop.example/g01926/laws.FnExactAreServers", spec := "fnExactAreServers", apart := false, narrowed := true }
def FnExactAreServersUptoSaid : Prop := fnExactAreServersUptoRow.holds Try.pinned (OpenSpec.upto fnExactAreServersSpec)

/-- 'laws.FnExactHasServer', WHERE WHAT IT READS IS OF BULK AT MOST 1048576: true; the input reads as it did. -/
def fnExactHasServerUptoRow : OpenClaim := { program := "ytmdipncfmmdbkaa", sum := "dd46968483cd851c34ff3140cb6122665a6eea71cbd0a8e75b741832f1f7086a", func := "loop.example/g01926/laws.FnExactHasServer", spec := "fnExactHasServer", apart := false, narrowed := true }
def FnExactHasServerUptoSaid : Prop := fnExactHasServerUptoRow.holds Try.pinned (OpenSpec.upto fnExactHasServerSpec)

/-- 'laws.FnExactUniteServers', WHERE WHAT IT READS IS OF BULK AT MOST 1048576: true; the input reads as it did. -/
def fnExactUniteServersUptoRow : OpenClaim := { program := "ytmdipncfmmdbkaa", sum := "dd46968483cd851c34ff3140cb6122665a6eea71cbd0a8e75b741832f1f7086a", func := "loop.example/g01926/laws.FnExactUniteServers", spec := "fnExactUniteServers", recurses := true, apart := false, narrowed := true }
def FnExactUniteServersUptoSaid : Prop := fnExactUniteServersUptoRow.holds Try.pinned (OpenSpec.upto fnExactUniteServersSpec)

/-- 'laws.FnExactCommonServers', WHERE WHAT IT READS IS OF BULK AT MOST 1048576: true; the input reads as it did. -/
def fnExactCommonServersUptoRow : OpenClaim := { program := "ytmdipncfmmdbkaa", sum := "dd46968483cd851c34ff3140cb6122665a6eea71cbd0a8e75b741832f1f7086a", func := "loop.example/g01926/laws.FnExactCommonServers", spec := "fnExactCommonServers", recurses := true, apart := false, narrowed := true }
def FnExactCommonServersUptoSaid : Prop := fnExactCommonServersUptoRow.holds Try.pinned (OpenSpec.upto fnExactCommonServersSpec)

/-- 'laws.FnExactWithoutServers', WHERE WHAT IT READS IS OF BULK AT MOST 1048576: true; the input reads as it did. -/
def fnExactWithoutServersUptoRow : OpenClaim := { program := "ytmdipncfmmdbkaa", sum := "dd46968483cd851c34ff3140cb6122665a6eea71cbd0a8e75b741832f1f7086a", func := "loop.example/g01926/laws.FnExactWithoutServers", spec := "fnExactWithoutServers", recurses := true, apart := false, narrowed := true }
def FnExactWithoutServersUptoSaid : Prop := fnExactWithoutServersUptoRow.holds Try.pinned (OpenSpec.upto fnExactWithoutServersSpec)

/-- 'laws.FnExactEqualServers', WHERE WHAT IT READS IS OF BULK AT MOST 1048576: true; the input reads as it did. -/
def fnExactEqualServersUptoRow : OpenClaim := { program := "ytmdipncfmmdbkaa", sum := "dd46968483cd851c34ff3140cb6122665a6eea71cbd0a8e75b741832f1f7086a", func := "loop.example/g01926/laws.FnExactEqualServers", spec := "fnExactEqualServers", apart := false, narrowed := true }
def FnExactEqualServersUptoSaid : Prop := fnExactEqualServersUptoRow.holds Try.pinned (OpenSpec.upto fnExactEqualServersSpec)

/-- 'laws.FnExactFormatServers', WHERE WHAT IT READS IS OF BULK AT MOST 1048576: true; the input reads as it did. -/
def fnExactFormatServersUptoRow : OpenClaim := { program := "ytmdipncfmmdbkaa", sum := "dd46968483cd851c34ff3140cb6122665a6eea71cbd0a8e75b741832f1f7086a", func := "loop.example/g01926/laws.FnExactFormatServers", spec := "fnExactFormatServers", apart := false, narrowed := true }
def FnExactFormatServersUptoSaid : Prop := fnExactFormatServersUptoRow.holds Try.pinned (OpenSpec.upto fnExactFormatServersSpec)

/-- 'laws.FnExactParseServers', WHERE WHAT IT READS IS OF BULK AT MOST 1048576: true; the input reads as it did. -/
def fnExactParseServersUptoRow : OpenClaim := { program := "ytmdipncfmmdbkaa", sum := "dd46968483cd851c34ff3140cb6122665a6eea71cbd0a8e75b741832f1f7086a", func := "loop.example/g01926/laws.FnExactParseServers", spec := "fnExactParseServers", apart := false, narrowed := true }
def FnExactParseServersUptoSaid : Prop := fnExactParseServersUptoRow.holds Try.pinned (OpenSpec.upto fnExactParseServersSpec)

end Rows
end Go.Proofs.Ytmdipncfmmdbkaa
