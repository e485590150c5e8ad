/-
  DERIVED. GIVEN WITH THE SEED: THE CARDS: each row of YtkkgonkpmdlelaaGreatDoorRows.lean that lists a variable, with what it lists TIED to the program's text (the seventh form; the later family's looks); each row that meets fmt, with fmt's text TOLD by the authors' own Lean function (tested against real Go, not proved from fmt's source: count such statements apart). THE CARD IS WHAT COUNTS. Prove the row's statement (the work); the ties are given (YtkkgonkpmdlelaaGreatDoorTie.lean); close each card by the builder's one call (the guide's Derived/Test/ToyasCard.lean, 'card_holds'). Laid BY PROGRAM, IN A SANDBOX (cutbox-door.mjs). By AI agents, Wed Nov 11 2026. No macro, syntax, notation, axiom, sorry.
-/
import Derived.Test.YtkkgonkpmdlelaaGreatDoorRows
import GoSem.ClaimSeven
namespace Go.Proofs.YtkkgonkpmdlelaaGreatDoor
namespace Rows

/-- THE TIED CARD OF 'laws.FnSnapshots'. -/
def fnSnapshotsCard : Claim7 := { stood := { row := fnSnapshotsRow, standIns := [], harness := (true, "de01b1ec93c3c3cc70c1a827fac7b2a028935cfeb5a822a42489a36d4163599e"), looks := true }, kinds := [], alts := [], laidByText := true, laidKinds := [.data, .data, .data, .data, .sentinel, .sentinel, .sentinel, .pinned], laidTests := true, laidLooks := .later }
def FnSnapshotsCardSaid : Prop := Claim7.holds Tryz.pinned (.plain (OpenSpec.ofChange fnSnapshotsSpec)) fnSnapshotsCard

/-- THE TIED CARD OF 'laws.FnChunks'. -/
def fnChunksCard : Claim7 := { stood := { row := fnChunksRow, standIns := [], harness := (true, "de01b1ec93c3c3cc70c1a827fac7b2a028935cfeb5a822a42489a36d4163599e"), looks := true }, kinds := [], alts := [], laidByText := true, laidKinds := [.data, .data, .data, .sentinel, .sentinel, .sentinel], laidTests := true, laidLooks := .later }
def FnChunksCardSaid : Prop := Claim7.holds Tryz.pinned (.plain (OpenSpec.ofChange fnChunksSpec)) fnChunksCard

/-- THE TIED CARD OF 'laws.FnExactTakeSnapshot'. -/
def fnExactTakeSnapshotCard : Claim7 := { stood := { row := fnExactTakeSnapshotRow, standIns := [], harness := (true, "de01b1ec93c3c3cc70c1a827fac7b2a028935cfeb5a822a42489a36d4163599e"), looks := true }, kinds := [], alts := [], laidByText := true, laidKinds := [.data, .data, .data], laidTests := true, laidLooks := .later }
def FnExactTakeSnapshotCardSaid : Prop := Claim7.holds Tryz.pinned (.plain (OpenSpec.ofChange fnExactTakeSnapshotSpec)) fnExactTakeSnapshotCard

/-- THE SECOND FORM's CARD OF 'laws.FnSnapshots'. -/
def fnSnapshotsUptoCard : Claim7 := { stood := { row := fnSnapshotsUptoRow, standIns := [], harness := (true, "de01b1ec93c3c3cc70c1a827fac7b2a028935cfeb5a822a42489a36d4163599e"), looks := true }, kinds := [], alts := [], laidByText := true, laidKinds := [.data, .data, .data, .data, .sentinel, .sentinel, .sentinel, .pinned], laidTests := true, laidLooks := .later }
def FnSnapshotsUptoCardSaid : Prop := Claim7.holds Tryz.pinned (.plain (OpenSpec.upto fnSnapshotsSpec)) fnSnapshotsUptoCard

/-- THE SECOND FORM's CARD OF 'laws.FnChunks'. -/
def fnChunksUptoCard : Claim7 := { stood := { row := fnChunksUptoRow, standIns := [], harness := (true, "de01b1ec93c3c3cc70c1a827fac7b2a028935cfeb5a822a42489a36d4163599e"), looks := true }, kinds := [], alts := [], laidByText := true, laidKinds := [.data, .data, .data, .sentinel, .sentinel, .sentinel], laidTests := true, laidLooks := .later }
def FnChunksUptoCardSaid : Prop := Claim7.holds Tryz.pinned (.plain (OpenSpec.upto fnChunksSpec)) fnChunksUptoCard

/-- THE SECOND FORM's CARD OF 'laws.FnExactTakeSnapshot'. -/
def fnExactTakeSnapshotUptoCard : Claim7 := { stood := { row := fnExactTakeSnapshotUptoRow, standIns := [], harness := (true, "de01b1ec93c3c3cc70c1a827fac7b2a028935cfeb5a822a42489a36d4163599e"), looks := true }, kinds := [], alts := [], laidByText := true, laidKinds := [.data, .data, .data], laidTests := true, laidLooks := .later }
def FnExactTakeSnapshotUptoCardSaid : Prop := Claim7.holds Tryz.pinned (.plain (OpenSpec.upto fnExactTakeSnapshotSpec)) fnExactTakeSnapshotUptoCard
end Rows
end Go.Proofs.YtkkgonkpmdlelaaGreatDoor
