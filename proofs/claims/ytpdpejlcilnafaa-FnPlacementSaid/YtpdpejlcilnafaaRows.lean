/-
  No cell of these rows narrows 'for every input' (looked for: loops, veiled, ifaces, maps, wideKeys, modest, calm, conditions, laid).
  DERIVED. THE GIVEN ROWS OF THIS SEAT. 8 by the template 'for every input the law returns true; each argument reads behind the call as it read before'; 0 by the template 'total and deterministic' (their statements: YtpdpejlcilnafaaTotals.lean).
  GIVEN WITH THE SEED: the statements are not yours to turn. If you find one false, say at which input.
  Laid BY PROGRAM, IN A SANDBOX (cutbox-rows.mjs): the forced cells as the released guide's own fill.sh prints them over the translation e715fbb06ce62a00… (all of the seat's roots in one cut). By AI agents, Wed Nov 11 2026. No macro, syntax, notation, axiom, sorry.
-/
import Derived.Test.YtpdpejlcilnafaaChecked
import GoSem.Claim
import GoSem.ClaimJoined
import GoSem.ClaimMapViews
import Derived.JoinedTies
import Derived.KernelRfl
namespace Go.Proofs.Ytpdpejlcilnafaa
/- THE CELL 'sum', in the pinned program and in every row, IS THE sha256 OF THE DUMP (.gsa) THAT YtpdpejlcilnafaaProg.lean LOADS. Nothing in Lean hashes anything: it is a label: what it is worth is what the hold of that sum in a sandbox is worth. -/
noncomputable def Try.pinned : Pinned := { name := "ytpdpejlcilnafaa", sum := "e715fbb06ce62a00aa79fc4f9ad1c555206a934f4379a43642cb3bcc1af168d0", checked := Try.checked }
namespace Rows
def none {H : Type} : Left H := { results := [], args := [] }

/-- 'laws.FnPlacement': WHATEVER THE INPUT: true; the input reads as it did. -/
def fnPlacementSpec : ChangeSpec := { name := "fnPlacement", fn := fun _ => fun
  | [d] => { results := [.lit (.bool true)], args := [d] }
  | _ => none }
def fnPlacementRow : OpenClaim := { program := "ytpdpejlcilnafaa", sum := "e715fbb06ce62a00aa79fc4f9ad1c555206a934f4379a43642cb3bcc1af168d0", func := "loop.example/g01926/laws.FnPlacement", spec := "fnPlacement", unfollowed := true, recurses := true, apart := false }
def FnPlacementSaid : Prop := fnPlacementRow.holds Try.pinned (OpenSpec.ofChange fnPlacementSpec)

/-- ITS FALSE NEIGHBOUR: 'it returns false'. Refute it at one input. -/
def fnPlacementWrong : ChangeSpec := { name := "fnPlacement", fn := fun _ => fun
  | [d] => { results := [.lit (.bool false)], args := [d] }
  | _ => none }
def FnPlacementWrongFalsely : Prop := fnPlacementRow.holds Try.pinned (OpenSpec.ofChange fnPlacementWrong)

/-- 'laws.FnExactArePlaces': WHATEVER THE INPUT: true; the input reads as it did. -/
def fnExactArePlacesSpec : ChangeSpec := { name := "fnExactArePlaces", fn := fun _ => fun
  | [d] => { results := [.lit (.bool true)], args := [d] }
  | _ => none }
def fnExactArePlacesRow : OpenClaim := { program := "ytpdpejlcilnafaa", sum := "e715fbb06ce62a00aa79fc4f9ad1c555206a934f4379a43642cb3bcc1af168d0", func := "loop.example/g01926/laws.FnExactArePlaces", spec := "fnExactArePlaces", unfollowed := true, recurses := true, apart := false }
def FnExactArePlacesSaid : Prop := fnExactArePlacesRow.holds Try.pinned (OpenSpec.ofChange fnExactArePlacesSpec)

/-- ITS FALSE NEIGHBOUR: 'it returns false'. Refute it at one input. -/
def fnExactArePlacesWrong : ChangeSpec := { name := "fnExactArePlaces", fn := fun _ => fun
  | [d] => { results := [.lit (.bool false)], args := [d] }
  | _ => none }
def FnExactArePlacesWrongFalsely : Prop := fnExactArePlacesRow.holds Try.pinned (OpenSpec.ofChange fnExactArePlacesWrong)

/-- 'laws.FnExactHasRoom': WHATEVER THE INPUT: true; the input reads as it did. -/
def fnExactHasRoomSpec : ChangeSpec := { name := "fnExactHasRoom", fn := fun _ => fun
  | [d1, d2] => { results := [.lit (.bool true)], args := [d1, d2] }
  | _ => none }
def fnExactHasRoomRow : OpenClaim := { program := "ytpdpejlcilnafaa", sum := "e715fbb06ce62a00aa79fc4f9ad1c555206a934f4379a43642cb3bcc1af168d0", func := "loop.example/g01926/laws.FnExactHasRoom", spec := "fnExactHasRoom", unfollowed := true, recurses := true, apart := false }
def FnExactHasRoomSaid : Prop := fnExactHasRoomRow.holds Try.pinned (OpenSpec.ofChange fnExactHasRoomSpec)

/-- ITS FALSE NEIGHBOUR: 'it returns false'. Refute it at one input. -/
def fnExactHasRoomWrong : ChangeSpec := { name := "fnExactHasRoom", fn := fun _ => fun
  | [d1, d2] => { results := [.lit (.bool false)], args := [d1, d2] }
  | _ => none }
def FnExactHasRoomWrongFalsely : Prop := fnExactHasRoomRow.holds Try.pinned (OpenSpec.ofChange fnExactHasRoomWrong)

/-- 'laws.FnExactRacksOf': WHATEVER THE INPUT: true; the input reads as it did. -/
def fnExactRacksOfSpec : ChangeSpec := { name := "fnExactRacksOf", fn := fun _ => fun
  | [d1, d2] => { results := [.lit (.bool true)], args := [d1, d2] }
  | _ => none }
def fnExactRacksOfRow : OpenClaim := { program := "ytpdpejlcilnafaa", sum := "e715fbb06ce62a00aa79fc4f9ad1c555206a934f4379a43642cb3bcc1af168d0", func := "loop.example/g01926/laws.FnExactRacksOf", spec := "fnExactRacksOf", unfollowed := true, recurses := true, apart := false }
def FnExactRacksOfSaid : Prop := fnExactRacksOfRow.holds Try.pinned (OpenSpec.ofChange fnExactRacksOfSpec)

/-- ITS FALSE NEIGHBOUR: 'it returns false'. Refute it at one input. -/
def fnExactRacksOfWrong : ChangeSpec := { name := "fnExactRacksOf", fn := fun _ => fun
  | [d1, d2] => { results := [.lit (.bool false)], args := [d1, d2] }
  | _ => none }
def FnExactRacksOfWrongFalsely : Prop := fnExactRacksOfRow.holds Try.pinned (OpenSpec.ofChange fnExactRacksOfWrong)

/-- 'laws.FnExactPickSpare': WHATEVER THE INPUT: true; the input reads as it did. -/
def fnExactPickSpareSpec : ChangeSpec := { name := "fnExactPickSpare", fn := fun _ => fun
  | [d1, d2, d3] => { results := [.lit (.bool true)], args := [d1, d2, d3] }
  | _ => none }
def fnExactPickSpareRow : OpenClaim := { program := "ytpdpejlcilnafaa", sum := "e715fbb06ce62a00aa79fc4f9ad1c555206a934f4379a43642cb3bcc1af168d0", func := "loop.example/g01926/laws.FnExactPickSpare", spec := "fnExactPickSpare", unfollowed := true, recurses := true, apart := false }
def FnExactPickSpareSaid : Prop := fnExactPickSpareRow.holds Try.pinned (OpenSpec.ofChange fnExactPickSpareSpec)

/-- ITS FALSE NEIGHBOUR: 'it returns false'. Refute it at one input. -/
def fnExactPickSpareWrong : ChangeSpec := { name := "fnExactPickSpare", fn := fun _ => fun
  | [d1, d2, d3] => { results := [.lit (.bool false)], args := [d1, d2, d3] }
  | _ => none }
def FnExactPickSpareWrongFalsely : Prop := fnExactPickSpareRow.holds Try.pinned (OpenSpec.ofChange fnExactPickSpareWrong)

/-- 'laws.FnExactPlanMembers': WHATEVER THE INPUT: true; the input reads as it did. -/
def fnExactPlanMembersSpec : ChangeSpec := { name := "fnExactPlanMembers", fn := fun _ => fun
  | [d1, d2, d3, d4] => { results := [.lit (.bool true)], args := [d1, d2, d3, d4] }
  | _ => none }
def fnExactPlanMembersRow : OpenClaim := { program := "ytpdpejlcilnafaa", sum := "e715fbb06ce62a00aa79fc4f9ad1c555206a934f4379a43642cb3bcc1af168d0", func := "loop.example/g01926/laws.FnExactPlanMembers", spec := "fnExactPlanMembers", unfollowed := true, recurses := true, apart := false }
def FnExactPlanMembersSaid : Prop := fnExactPlanMembersRow.holds Try.pinned (OpenSpec.ofChange fnExactPlanMembersSpec)

/-- ITS FALSE NEIGHBOUR: 'it returns false'. Refute it at one input. -/
def fnExactPlanMembersWrong : ChangeSpec := { name := "fnExactPlanMembers", fn := fun _ => fun
  | [d1, d2, d3, d4] => { results := [.lit (.bool false)], args := [d1, d2, d3, d4] }
  | _ => none }
def FnExactPlanMembersWrongFalsely : Prop := fnExactPlanMembersRow.holds Try.pinned (OpenSpec.ofChange fnExactPlanMembersWrong)

/-- 'laws.FnExactIsSpread': WHATEVER THE INPUT: true; the input reads as it did. -/
def fnExactIsSpreadSpec : ChangeSpec := { name := "fnExactIsSpread", fn := fun _ => fun
  | [d1, d2] => { results := [.lit (.bool true)], args := [d1, d2] }
  | _ => none }
def fnExactIsSpreadRow : OpenClaim := { program := "ytpdpejlcilnafaa", sum := "e715fbb06ce62a00aa79fc4f9ad1c555206a934f4379a43642cb3bcc1af168d0", func := "loop.example/g01926/laws.FnExactIsSpread", spec := "fnExactIsSpread", unfollowed := true, recurses := true, apart := false }
def FnExactIsSpreadSaid : Prop := fnExactIsSpreadRow.holds Try.pinned (OpenSpec.ofChange fnExactIsSpreadSpec)

/-- ITS FALSE NEIGHBOUR: 'it returns false'. Refute it at one input. -/
def fnExactIsSpreadWrong : ChangeSpec := { name := "fnExactIsSpread", fn := fun _ => fun
  | [d1, d2] => { results := [.lit (.bool false)], args := [d1, d2] }
  | _ => none }
def FnExactIsSpreadWrongFalsely : Prop := fnExactIsSpreadRow.holds Try.pinned (OpenSpec.ofChange fnExactIsSpreadWrong)

/-- 'laws.FnExactCountMoves': WHATEVER THE INPUT: true; the input reads as it did. -/
def fnExactCountMovesSpec : ChangeSpec := { name := "fnExactCountMoves", fn := fun _ => fun
  | [d1, d2] => { results := [.lit (.bool true)], args := [d1, d2] }
  | _ => none }
def fnExactCountMovesRow : OpenClaim := { program := "ytpdpejlcilnafaa", sum := "e715fbb06ce62a00aa79fc4f9ad1c555206a934f4379a43642cb3bcc1af168d0", func := "loop.example/g01926/laws.FnExactCountMoves", spec := "fnExactCountMoves", recurses := true, apart := false }
def FnExactCountMovesSaid : Prop := fnExactCountMovesRow.holds Try.pinned (OpenSpec.ofChange fnExactCountMovesSpec)

/-- ITS FALSE NEIGHBOUR: 'it returns false'. Refute it at one input. -/
def fnExactCountMovesWrong : ChangeSpec := { name := "fnExactCountMoves", fn := fun _ => fun
  | [d1, d2] => { results := [.lit (.bool false)], args := [d1, d2] }
  | _ => none }
def FnExactCountMovesWrongFalsely : Prop := fnExactCountMovesRow.holds Try.pinned (OpenSpec.ofChange fnExactCountMovesWrong)

/- THE SECOND FORM. 'bulk': how many values and letters a reading holds, each counted each time it is reached (what is shared counts as often as it is met; a slice's spare places count too). A statement '..UptoSaid' is the law's where the arguments, and the package variables that the reading takes, are together of bulk at most 1048576: NARROWER than '..Said'. Prove '..Said' where nothing that the law and all that it calls make is longer than what came in: it says more and counts as full. Else prove '..UptoSaid'. A law counts once. -/
mutual
def uptoBulk {H : Type} : DataW H → Nat
  | .lit (.string bytes) => bytes.length + 1
  | .lit _ => 1
  | .nil => 1
  | .ptr d => uptoBulk d + 1
  | .slice elems spare => uptoBulkAll elems + uptoBulkAll spare + 1
  | .agg parts => uptoBulkAll parts + 1
  | .iface _ d => uptoBulk d + 1
  | .map entries => uptoBulkEntries entries + 1
  | .held _ => 1
def uptoBulkAll {H : Type} : List (DataW H) → Nat
  | [] => 0
  | d :: r => uptoBulk d + uptoBulkAll r
def uptoBulkEntries {H : Type} : List (Lit × DataW H) → Nat
  | [] => 0
  | x :: r => uptoBulkEntry x + uptoBulkEntries r
def uptoBulkEntry {H : Type} : Lit × DataW H → Nat
  | (.string bytes, d) => bytes.length + uptoBulk d + 1
  | (_, d) => uptoBulk d + 1
 end
def uptoSmall : (H : Type) → List (DataW H) → Bool := fun _ ds => decide (uptoBulkAll ds ≤ 1048576)
def OpenSpec.upto (s : _root_.Go.ChangeSpec) : _root_.Go.OpenSpec := { _root_.Go.OpenSpec.ofChange s with cond := some uptoSmall }

/-- 'laws.FnPlacement', WHERE WHAT IT READS IS OF BULK AT MOST 1048576: true; the input reads as it did. -/
def fnPlacementUptoRow : OpenClaim := { program := "ytpdpejlcilnafaa", sum := "e715fbb06ce62a00aa79fc4f9ad1c555206a934f4379a43642cb3bcc1af168d0", func := "loop.example/g01926/laws.FnPlacement", spec := "fnPlacement", unfollowed := true, recurses := true, apart := false, narrowed := true }
def FnPlacementUptoSaid : Prop := fnPlacementUptoRow.holds Try.pinned (OpenSpec.upto fnPlacementSpec)

/-- 'laws.FnExactArePlaces', WHERE WHAT IT READS IS OF BULK AT MOST 1048576: true; the input reads as it did. -/
def fnExactArePlacesUptoRow : OpenClaim := { program := "ytpdpejlcilnafaa", sum := "e715fbb06ce62a00aa79fc4f9ad1c555206a934f4379a43642cb3bcc1af168d0", func := "loop.example/g01926/laws.FnExactArePlaces", spec := "fnExactArePlaces", unfollowed := true, recurses := true, apart := false, narrowed := true }
def FnExactArePlacesUptoSaid : Prop := fnExactArePlacesUptoRow.holds Try.pinned (OpenSpec.upto fnExactArePlacesSpec)

/-- 'laws.FnExactHasRoom', WHERE WHAT IT READS IS OF BULK AT MOST 1048576: true; the input reads as it did. -/
def fnExactHasRoomUptoRow : OpenClaim := { program := "ytpdpejlcilnafaa", sum := "e715fbb06ce62a00aa79fc4f9ad1c555206a934f4379a43642cb3bcc1af168d0", func := "loop.example/g01926/laws.FnExactHasRoom", spec := "fnExactHasRoom", unfollowed := true, recurses := true, apart := false, narrowed := true }
def FnExactHasRoomUptoSaid : Prop := fnExactHasRoomUptoRow.holds Try.pinned (OpenSpec.upto fnExactHasRoomSpec)

/-- 'laws.FnExactRacksOf', WHERE WHAT IT READS IS OF BULK AT MOST 1048576: true; the input reads as it did. -/
def fnExactRacksOfUptoRow : OpenClaim := { program := "ytpdpejlcilnafaa", sum := "e715fbb06ce62a00aa79fc4f9ad1c555206a934f4379a43642cb3bcc1af168d0", func := "loop.example/g01926/laws.FnExactRacksOf", spec := "fnExactRacksOf", unfollowed := true, recurses := true, apart := false, narrowed := true }
def FnExactRacksOfUptoSaid : Prop := fnExactRacksOfUptoRow.holds Try.pinned (OpenSpec.upto fnExactRacksOfSpec)

/-- 'laws.FnExactPickSpare', WHERE WHAT IT READS IS OF BULK AT MOST 1048576: true; the input reads as it did. -/
def fnExactPickSpareUptoRow : OpenClaim := { program := "ytpdpejlcilnafaa", sum := "e715fbb06ce62a00aa79fc4f9ad1c555206a934f4379a43642cb3bcc1af168d0", func := "loop.example/g01926/laws.FnExactPickSpare", spec := "fnExactPickSpare", unfollowed := true, recurses := true, apart := false, narrowed := true }
def FnExactPickSpareUptoSaid : Prop := fnExactPickSpareUptoRow.holds Try.pinned (OpenSpec.upto fnExactPickSpareSpec)

/-- 'laws.FnExactPlanMembers', WHERE WHAT IT READS IS OF BULK AT MOST 1048576: true; the input reads as it did. -/
def fnExactPlanMembersUptoRow : OpenClaim := { program := "ytpdpejlcilnafaa", sum := "e715fbb06ce62a00aa79fc4f9ad1c555206a934f4379a43642cb3bcc1af168d0", func := "loop.example/g01926/laws.FnExactPlanMembers", spec := "fnExactPlanMembers", unfollowed := true, recurses := true, apart := false, narrowed := true }
def FnExactPlanMembersUptoSaid : Prop := fnExactPlanMembersUptoRow.holds Try.pinned (OpenSpec.upto fnExactPlanMembersSpec)

/-- 'laws.FnExactIsSpread', WHERE WHAT IT READS IS OF BULK AT MOST 1048576: true; the input reads as it did. -/
def fnExactIsSpreadUptoRow : OpenClaim := { program := "ytpdpejlcilnafaa", sum := "e715fbb06ce62a00aa79fc4f9ad1c555206a934f4379a43642cb3bcc1af168d0", func := "loop.example/g01926/laws.FnExactIsSpread", spec := "fnExactIsSpread", unfollowed := true, recurses := true, apart := false, narrowed := true }
def FnExactIsSpreadUptoSaid : Prop := fnExactIsSpreadUptoRow.holds Try.pinned (OpenSpec.upto fnExactIsSpreadSpec)

/-- 'laws.FnExactCountMoves', WHERE WHAT IT READS IS OF BULK AT MOST 1048576: true; the input reads as it did. -/
def fnExactCountMovesUptoRow : OpenClaim := { program := "ytpdpejlcilnafaa", sum := "e715fbb06ce62a00aa79fc4f9ad1c555206a934f4379a43642cb3bcc1af168d0", func := "loop.example/g01926/laws.FnExactCountMoves", spec := "fnExactCountMoves", recurses := true, apart := false, narrowed := true }
def FnExactCountMovesUptoSaid : Prop := fnExactCountMovesUptoRow.holds Try.pinned (OpenSpec.upto fnExactCountMovesSpec)

end Rows
end Go.Proofs.Ytpdpejlcilnafaa
