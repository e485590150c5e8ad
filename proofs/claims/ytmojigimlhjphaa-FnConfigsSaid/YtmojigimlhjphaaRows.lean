/-
  No cell of these rows narrows 'for every input' (looked for: loops, veiled, ifaces, maps, wideKeys, modest, calm, conditions, laid).
  DERIVED. THE GIVEN ROWS OF THIS SEAT. 8 by the template 'for every input the law returns true; each argument reads behind the call as it read before'; 0 by the template 'total and deterministic' (their statements: YtmojigimlhjphaaTotals.lean).
  GIVEN WITH THE SEED: the statements are not yours to turn. If you find one false, say at which input.
  Laid BY PROGRAM, IN A SANDBOX (cutbox-rows.mjs): the forced cells as the released guide's own fill.sh prints them over the translation 2eff848eead4a523… (all of the seat's roots in one cut). By AI agents, Wed Nov 11 2026. No macro, syntax, notation, axiom, sorry.
-/
import Derived.Test.YtmojigimlhjphaaChecked
import GoSem.Claim
import GoSem.ClaimJoined
import GoSem.ClaimMapViews
import Derived.JoinedTies
import Derived.KernelRfl
namespace Go.Proofs.Ytmojigimlhjphaa
/- THE CELL 'sum', in the pinned program and in every row, IS THE sha256 OF THE DUMP (.gsa) THAT YtmojigimlhjphaaProg.lean LOADS. Nothing in Lean hashes anything: it is a label: what it is worth is what the hold of that sum in a sandbox is worth. -/
noncomputable def Try.pinned : Pinned := { name := "ytmojigimlhjphaa", sum := "2eff848eead4a523efaf6eddcf7922e1a0325d182997b9fdcb5534fc597961fe", checked := Try.checked }
namespace Rows
def none {H : Type} : Left H := { results := [], args := [] }

/-- 'laws.FnServers': WHATEVER THE INPUT: true; the input reads as it did. -/
def fnServersSpec : ChangeSpec := { name := "fnServers", fn := fun _ => fun
  | [d] => { results := [.lit (.bool true)], args := [d] }
  | _ => none }
def fnServersRow : OpenClaim := { program := "ytmojigimlhjphaa", sum := "2eff848eead4a523efaf6eddcf7922e1a0325d182997b9fdcb5534fc597961fe", func := "loop.example/g01926/laws.FnServers", spec := "fnServers", recurses := true, apart := false }
def FnServersSaid : Prop := fnServersRow.holds Try.pinned (OpenSpec.ofChange fnServersSpec)

/-- ITS FALSE NEIGHBOUR: 'it returns false'. Refute it at one input. -/
def fnServersWrong : ChangeSpec := { name := "fnServers", fn := fun _ => fun
  | [d] => { results := [.lit (.bool false)], args := [d] }
  | _ => none }
def FnServersWrongFalsely : Prop := fnServersRow.holds Try.pinned (OpenSpec.ofChange fnServersWrong)

/-- 'laws.FnConfigs': WHATEVER THE INPUT: true; the input reads as it did. -/
def fnConfigsSpec : ChangeSpec := { name := "fnConfigs", fn := fun _ => fun
  | [d] => { results := [.lit (.bool true)], args := [d] }
  | _ => none }
def fnConfigsRow : OpenClaim := { program := "ytmojigimlhjphaa", sum := "2eff848eead4a523efaf6eddcf7922e1a0325d182997b9fdcb5534fc597961fe", func := "loop.example/g01926/laws.FnConfigs", spec := "fnConfigs", apart := false }
def FnConfigsSaid : Prop := fnConfigsRow.holds Try.pinned (OpenSpec.ofChange fnConfigsSpec)

/-- ITS FALSE NEIGHBOUR: 'it returns false'. Refute it at one input. -/
def fnConfigsWrong : ChangeSpec := { name := "fnConfigs", fn := fun _ => fun
  | [d] => { results := [.lit (.bool false)], args := [d] }
  | _ => none }
def FnConfigsWrongFalsely : Prop := fnConfigsRow.holds Try.pinned (OpenSpec.ofChange fnConfigsWrong)

/-- 'laws.FnExactAreServers': WHATEVER THE INPUT: true; the input reads as it did. -/
def fnExactAreServersSpec : ChangeSpec := { name := "fnExactAreServers", fn := fun _ => fun
  | [d] => { results := [.lit (.bool true)], args := [d] }
  | _ => none }
def fnExactAreServersRow : OpenClaim := { program := "ytmojigimlhjphaa", sum := "2eff848eead4a523efaf6eddcf7922e1a0325d182997b9fdcb5534fc597961fe", func := "loop.example/g01926/laws.FnExactAreServers", spec := "fnExactAreServers", apart := false }
def FnExactAreServersSaid : Prop := fnExactAreServersRow.holds Try.pinned (OpenSpec.ofChange fnExactAreServersSpec)

/-- ITS FALSE NEIGHBOUR: 'it returns false'. Refute it at one input. -/
def fnExactAreServersWrong : ChangeSpec := { name := "fnExactAreServers", fn := fun _ => fun
  | [d] => { results := [.lit (.bool false)], args := [d] }
  | _ => none }
def FnExactAreServersWrongFalsely : Prop := fnExactAreServersRow.holds Try.pinned (OpenSpec.ofChange fnExactAreServersWrong)

/-- 'laws.FnExactFormatServers': WHATEVER THE INPUT: true; the input reads as it did. -/
def fnExactFormatServersSpec : ChangeSpec := { name := "fnExactFormatServers", fn := fun _ => fun
  | [d] => { results := [.lit (.bool true)], args := [d] }
  | _ => none }
def fnExactFormatServersRow : OpenClaim := { program := "ytmojigimlhjphaa", sum := "2eff848eead4a523efaf6eddcf7922e1a0325d182997b9fdcb5534fc597961fe", func := "loop.example/g01926/laws.FnExactFormatServers", spec := "fnExactFormatServers", apart := false }
def FnExactFormatServersSaid : Prop := fnExactFormatServersRow.holds Try.pinned (OpenSpec.ofChange fnExactFormatServersSpec)

/-- ITS FALSE NEIGHBOUR: 'it returns false'. Refute it at one input. -/
def fnExactFormatServersWrong : ChangeSpec := { name := "fnExactFormatServers", fn := fun _ => fun
  | [d] => { results := [.lit (.bool false)], args := [d] }
  | _ => none }
def FnExactFormatServersWrongFalsely : Prop := fnExactFormatServersRow.holds Try.pinned (OpenSpec.ofChange fnExactFormatServersWrong)

/-- 'laws.FnExactParseServers': WHATEVER THE INPUT: true; the input reads as it did. -/
def fnExactParseServersSpec : ChangeSpec := { name := "fnExactParseServers", fn := fun _ => fun
  | [d] => { results := [.lit (.bool true)], args := [d] }
  | _ => none }
def fnExactParseServersRow : OpenClaim := { program := "ytmojigimlhjphaa", sum := "2eff848eead4a523efaf6eddcf7922e1a0325d182997b9fdcb5534fc597961fe", func := "loop.example/g01926/laws.FnExactParseServers", spec := "fnExactParseServers", apart := false }
def FnExactParseServersSaid : Prop := fnExactParseServersRow.holds Try.pinned (OpenSpec.ofChange fnExactParseServersSpec)

/-- ITS FALSE NEIGHBOUR: 'it returns false'. Refute it at one input. -/
def fnExactParseServersWrong : ChangeSpec := { name := "fnExactParseServers", fn := fun _ => fun
  | [d] => { results := [.lit (.bool false)], args := [d] }
  | _ => none }
def FnExactParseServersWrongFalsely : Prop := fnExactParseServersRow.holds Try.pinned (OpenSpec.ofChange fnExactParseServersWrong)

/-- 'laws.FnExactIsValidConfig': WHATEVER THE INPUT: true; the input reads as it did. -/
def fnExactIsValidConfigSpec : ChangeSpec := { name := "fnExactIsValidConfig", fn := fun _ => fun
  | [d] => { results := [.lit (.bool true)], args := [d] }
  | _ => none }
def fnExactIsValidConfigRow : OpenClaim := { program := "ytmojigimlhjphaa", sum := "2eff848eead4a523efaf6eddcf7922e1a0325d182997b9fdcb5534fc597961fe", func := "loop.example/g01926/laws.FnExactIsValidConfig", spec := "fnExactIsValidConfig", apart := false }
def FnExactIsValidConfigSaid : Prop := fnExactIsValidConfigRow.holds Try.pinned (OpenSpec.ofChange fnExactIsValidConfigSpec)

/-- ITS FALSE NEIGHBOUR: 'it returns false'. Refute it at one input. -/
def fnExactIsValidConfigWrong : ChangeSpec := { name := "fnExactIsValidConfig", fn := fun _ => fun
  | [d] => { results := [.lit (.bool false)], args := [d] }
  | _ => none }
def FnExactIsValidConfigWrongFalsely : Prop := fnExactIsValidConfigRow.holds Try.pinned (OpenSpec.ofChange fnExactIsValidConfigWrong)

/-- 'laws.FnExactMembersOf': WHATEVER THE INPUT: true; the input reads as it did. -/
def fnExactMembersOfSpec : ChangeSpec := { name := "fnExactMembersOf", fn := fun _ => fun
  | [d] => { results := [.lit (.bool true)], args := [d] }
  | _ => none }
def fnExactMembersOfRow : OpenClaim := { program := "ytmojigimlhjphaa", sum := "2eff848eead4a523efaf6eddcf7922e1a0325d182997b9fdcb5534fc597961fe", func := "loop.example/g01926/laws.FnExactMembersOf", spec := "fnExactMembersOf", apart := false }
def FnExactMembersOfSaid : Prop := fnExactMembersOfRow.holds Try.pinned (OpenSpec.ofChange fnExactMembersOfSpec)

/-- ITS FALSE NEIGHBOUR: 'it returns false'. Refute it at one input. -/
def fnExactMembersOfWrong : ChangeSpec := { name := "fnExactMembersOf", fn := fun _ => fun
  | [d] => { results := [.lit (.bool false)], args := [d] }
  | _ => none }
def FnExactMembersOfWrongFalsely : Prop := fnExactMembersOfRow.holds Try.pinned (OpenSpec.ofChange fnExactMembersOfWrong)

/-- 'laws.FnExactRoleOf': WHATEVER THE INPUT: true; the input reads as it did. -/
def fnExactRoleOfSpec : ChangeSpec := { name := "fnExactRoleOf", fn := fun _ => fun
  | [d1, d2] => { results := [.lit (.bool true)], args := [d1, d2] }
  | _ => none }
def fnExactRoleOfRow : OpenClaim := { program := "ytmojigimlhjphaa", sum := "2eff848eead4a523efaf6eddcf7922e1a0325d182997b9fdcb5534fc597961fe", func := "loop.example/g01926/laws.FnExactRoleOf", spec := "fnExactRoleOf", apart := false }
def FnExactRoleOfSaid : Prop := fnExactRoleOfRow.holds Try.pinned (OpenSpec.ofChange fnExactRoleOfSpec)

/-- ITS FALSE NEIGHBOUR: 'it returns false'. Refute it at one input. -/
def fnExactRoleOfWrong : ChangeSpec := { name := "fnExactRoleOf", fn := fun _ => fun
  | [d1, d2] => { results := [.lit (.bool false)], args := [d1, d2] }
  | _ => none }
def FnExactRoleOfWrongFalsely : Prop := fnExactRoleOfRow.holds Try.pinned (OpenSpec.ofChange fnExactRoleOfWrong)

/- THE SECOND FORM. 'bulk': how many values and letters a reading holds, each counted each time it is reached (what is shared counts as often as it is met; a slice's spare places count too). A statement '..UptoSaid' is the law's where the arguments, and the package variables that the reading takes, are together of bulk at most 1048576: NARROWER than '..Said'. Prove '..Said' where nothing that the law and all that it calls make is longer than what came in: it says more and counts as full. Else prove '..UptoSaid'. A law counts once. -/
mutual
def uptoBulk {H : Type} : DataW H → Nat
  | .lit (.string bytes) => bytes.length + 1
  | .lit _ => 1
  | .nil => 1
  | .ptr d => uptoBulk d + 1
  | .slice elems spare => uptoBulkAll elems + uptoBulkAll spare + 1
  | .agg parts => uptoBulkAll parts + 1
  | .iface _ d => uptoBulk d + 1
  | .map entries => uptoBulkEntries entries + 1
  | .held _ => 1
def uptoBulkAll {H : Type} : List (DataW H) → Nat
  | [] => 0
  | d :: r => uptoBulk d + uptoBulkAll r
def uptoBulkEntries {H : Type} : List (Lit × DataW H) → Nat
  | [] => 0
  | x :: r => uptoBulkEntry x + uptoBulkEntries r
def uptoBulkEntry {H : Type} : Lit × DataW H → Nat
  | (.string bytes, d) => bytes.length + uptoBulk d + 1
  | (_, d) => uptoBulk d + 1
 end
def uptoSmall : (H : Type) → List (DataW H) → Bool := fun _ ds => decide (uptoBulkAll ds ≤ 1048576)
def OpenSpec.upto (s : _root_.Go.ChangeSpec) : _root_.Go.OpenSpec := { _root_.Go.OpenSpec.ofChange s with cond := some uptoSmall }

/-- 'laws.FnServers', WHERE WHAT IT READS IS OF BULK AT MOST 1048576: true; the input reads as it did. -/
def fnServersUptoRow : OpenClaim := { program := "ytmojigimlhjphaa", sum := "2eff848eead4a523efaf6eddcf7922e1a0325d182997b9fdcb5534fc597961fe", func := "loop.example/g01926/laws.FnServers", spec := "fnServers", recurses := true, apart := false, narrowed := true }
def FnServersUptoSaid : Prop := fnServersUptoRow.holds Try.pinned (OpenSpec.upto fnServersSpec)

/-- 'laws.FnConfigs', WHERE WHAT IT READS IS OF BULK AT MOST 1048576: true; the input reads as it did. -/
def fnConfigsUptoRow : OpenClaim := { program := "ytmojigimlhjphaa", sum := "2eff848eead4a523efaf6eddcf7922e1a0325d182997b9fdcb5534fc597961fe", func := "loop.example/g01926/laws.FnConfigs", spec := "fnConfigs", apart := false, narrowed := true }
def FnConfigsUptoSaid : Prop := fnConfigsUptoRow.holds Try.pinned (OpenSpec.upto fnConfigsSpec)

/-- 'laws.FnExactAreServers', WHERE WHAT IT READS IS OF BULK AT MOST 1048576: true; the input reads as it did. -/
def fnExactAreServersUptoRow : OpenClaim := { program := "ytmojigimlhjphaa", sum := "2eff848eead4a523efaf6eddcf7922e1a0325d182997b9fdcb5534fc597961fe", func := "loop.example/g01926/laws.FnExactAreServers", spec := "fnExactAreServers", apart := false, narrowed := true }
def FnExactAreServersUptoSaid : Prop := fnExactAreServersUptoRow.holds Try.pinned (OpenSpec.upto fnExactAreServersSpec)

/-- 'laws.FnExactFormatServers', WHERE WHAT IT READS IS OF BULK AT MOST 1048576: true; the input reads as it did. -/
def fnExactFormatServersUptoRow : OpenClaim := { program := "ytmojigimlhjphaa", sum := "2eff848eead4a523efaf6eddcf7922e1a0325d182997b9fdcb5534fc597961fe", func := "loop.example/g01926/laws.FnExactFormatServers", spec := "fnExactFormatServers", apart := false, narrowed := true }
def FnExactFormatServersUptoSaid : Prop := fnExactFormatServersUptoRow.holds Try.pinned (OpenSpec.upto fnExactFormatServersSpec)

/-- 'laws.FnExactParseServers', WHERE WHAT IT READS IS OF BULK AT MOST 1048576: true; the input reads as it did. -/
def fnExactParseServersUptoRow : OpenClaim := { program := "ytmojigimlhjphaa", sum := "2eff848eead4a523efaf6eddcf7922e1a0325d182997b9fdcb5534fc597961fe", func := "loop.example/g01926/laws.FnExactParseServers", spec := "fnExactParseServers", apart := false, narrowed := true }
def FnExactParseServersUptoSaid : Prop := fnExactParseServersUptoRow.holds Try.pinned (OpenSpec.upto fnExactParseServersSpec)

/-- 'laws.FnExactIsValidConfig', WHERE WHAT IT READS IS OF BULK AT MOST 1048576: true; the input reads as it did. -/
def fnExactIsValidConfigUptoRow : OpenClaim := { program := "ytmojigimlhjphaa", sum := "2eff848eead4a523efaf6eddcf7922e1a0325d182997b9fdcb5534fc597961fe", func := "loop.example/g01926/laws.FnExactIsValidConfig", spec := "fnExactIsValidConfig", apart := false, narrowed := true }
def FnExactIsValidConfigUptoSaid : Prop := fnExactIsValidConfigUptoRow.holds Try.pinned (OpenSpec.upto fnExactIsValidConfigSpec)

/-- 'laws.FnExactMembersOf', WHERE WHAT IT READS IS OF BULK AT MOST 1048576: true; the input reads as it did. -/
def fnExactMembersOfUptoRow : OpenClaim := { program := "ytmojigimlhjphaa", sum := "2eff848eead4a523efaf6eddcf7922e1a0325d182997b9fdcb5534fc597961fe", func := "loop.example/g01926/laws.FnExactMembersOf", spec := "fnExactMembersOf", apart := false, narrowed := true }
def FnExactMembersOfUptoSaid : Prop := fnExactMembersOfUptoRow.holds Try.pinned (OpenSpec.upto fnExactMembersOfSpec)

/-- 'laws.FnExactRoleOf', WHERE WHAT IT READS IS OF BULK AT MOST 1048576: true; the input reads as it did. -/
def fnExactRoleOfUptoRow : OpenClaim := { program := "ytmojigimlhjphaa", sum := "2eff848eead4a523efaf6eddcf7922e1a0325d182997b9fdcb5534fc597961fe", func := "loop.example/g01926/laws.FnExactRoleOf", spec := "fnExactRoleOf", apart := false, narrowed := true }
def FnExactRoleOfUptoSaid : Prop := fnExactRoleOfUptoRow.holds Try.pinned (OpenSpec.upto fnExactRoleOfSpec)

end Rows
end Go.Proofs.Ytmojigimlhjphaa
