/-
  DERIVED. GIVEN WITH THE SEED: THE CARDS: each row of YtpdpejlcilnafaaGreatDoorRows.lean that lists a variable, with what it lists TIED to the program's text (the seventh form; the later family's looks); each row that meets fmt, with fmt's text TOLD by the authors' own Lean function (tested against real Go, not proved from fmt's source: count such statements apart). THE CARD IS WHAT COUNTS. Prove the row's statement (the work); the ties are given (YtpdpejlcilnafaaGreatDoorTie.lean); close each card by the builder's one call (the guide's Derived/Test/ToyasCard.lean, 'card_holds'). Laid BY PROGRAM, IN A SANDBOX (cutbox-door.mjs). By AI agents, Wed Nov 11 2026. No macro, syntax, notation, axiom, sorry.
-/
import Derived.Test.YtpdpejlcilnafaaGreatDoorRows
import GoSem.ClaimSeven
namespace Go.Proofs.YtpdpejlcilnafaaGreatDoor
namespace Rows

/-- THE TIED CARD OF 'laws.FnSnapshots'. -/
def fnSnapshotsCard : Claim7 := { stood := { row := fnSnapshotsRow, standIns := [], harness := (true, "b6fcd1b75cd0d6ce1f5f3959e37535579d0d72471ee731f6753c62c96aa1daee"), looks := true }, kinds := [], alts := [], laidByText := true, laidKinds := [.data, .data, .data, .data, .sentinel, .sentinel, .sentinel, .pinned], laidTests := true, laidLooks := .later }
def FnSnapshotsCardSaid : Prop := Claim7.holds Tryz.pinned (.plain (OpenSpec.ofChange fnSnapshotsSpec)) fnSnapshotsCard

/-- THE TIED CARD OF 'laws.FnChunks'. -/
def fnChunksCard : Claim7 := { stood := { row := fnChunksRow, standIns := [], harness := (true, "b6fcd1b75cd0d6ce1f5f3959e37535579d0d72471ee731f6753c62c96aa1daee"), looks := true }, kinds := [], alts := [], laidByText := true, laidKinds := [.data, .data, .data, .sentinel, .sentinel, .sentinel], laidTests := true, laidLooks := .later }
def FnChunksCardSaid : Prop := Claim7.holds Tryz.pinned (.plain (OpenSpec.ofChange fnChunksSpec)) fnChunksCard

/-- THE SECOND FORM's CARD OF 'laws.FnSnapshots'. -/
def fnSnapshotsUptoCard : Claim7 := { stood := { row := fnSnapshotsUptoRow, standIns := [], harness := (true, "b6fcd1b75cd0d6ce1f5f3959e37535579d0d72471ee731f6753c62c96aa1daee"), looks := true }, kinds := [], alts := [], laidByText := true, laidKinds := [.data, .data, .data, .data, .sentinel, .sentinel, .sentinel, .pinned], laidTests := true, laidLooks := .later }
def FnSnapshotsUptoCardSaid : Prop := Claim7.holds Tryz.pinned (.plain (OpenSpec.upto fnSnapshotsSpec)) fnSnapshotsUptoCard

/-- THE SECOND FORM's CARD OF 'laws.FnChunks'. -/
def fnChunksUptoCard : Claim7 := { stood := { row := fnChunksUptoRow, standIns := [], harness := (true, "b6fcd1b75cd0d6ce1f5f3959e37535579d0d72471ee731f6753c62c96aa1daee"), looks := true }, kinds := [], alts := [], laidByText := true, laidKinds := [.data, .data, .data, .sentinel, .sentinel, .sentinel], laidTests := true, laidLooks := .later }
def FnChunksUptoCardSaid : Prop := Claim7.holds Tryz.pinned (.plain (OpenSpec.upto fnChunksSpec)) fnChunksUptoCard
end Rows
end Go.Proofs.YtpdpejlcilnafaaGreatDoor
