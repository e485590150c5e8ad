/-
  DERIVED. GIVEN WITH THE SEED: THE CARDS: each row of YtkkgonkpmdlelaaDoorRows.lean that lists a variable, with what it lists TIED to the program's text (the seventh form; the later family's looks); each row that meets fmt, with fmt's text TOLD by the authors' own Lean function (tested against real Go, not proved from fmt's source: count such statements apart). THE CARD IS WHAT COUNTS. Prove the row's statement (the work); the ties are given (YtkkgonkpmdlelaaDoorTie.lean); close each card by the builder's one call (the guide's Derived/Test/ToyasCard.lean, 'card_holds'). Laid BY PROGRAM, IN A SANDBOX (cutbox-door.mjs). By AI agents, Wed Nov 11 2026. No macro, syntax, notation, axiom, sorry.
-/
import Derived.Test.YtkkgonkpmdlelaaDoorRows
import GoSem.ClaimSeven
namespace Go.Proofs.YtkkgonkpmdlelaaDoor
namespace Rows

/-- THE TIED CARD OF 'laws.FnExactParseMachine'. -/
def fnExactParseMachineCard : Claim7 := { stood := { row := fnExactParseMachineRow, standIns := [], harness := (true, "434904b42144d52037ee500edba9d06f60c4a4d69a42f59c34227342eba6f059"), looks := true }, kinds := [], alts := [], laidByText := true, laidKinds := [.data, .data, .data, .data, .pinned], laidTests := true, laidLooks := .later }
def FnExactParseMachineCardSaid : Prop := Claim7.holds Tryd.pinned (.plain (OpenSpec.ofChange fnExactParseMachineSpec)) fnExactParseMachineCard

/-- THE TIED CARD OF 'laws.FnExactParseLog'. -/
def fnExactParseLogCard : Claim7 := { stood := { row := fnExactParseLogRow, standIns := [], harness := (true, "434904b42144d52037ee500edba9d06f60c4a4d69a42f59c34227342eba6f059"), looks := true }, kinds := [], alts := [], laidByText := true, laidKinds := [.data, .data, .data, .data, .pinned], laidTests := true, laidLooks := .later }
def FnExactParseLogCardSaid : Prop := Claim7.holds Tryd.pinned (.plain (OpenSpec.ofChange fnExactParseLogSpec)) fnExactParseLogCard

/-- THE TIED CARD OF 'laws.FnExactSnapshotText'. -/
def fnExactSnapshotTextCard : Claim7 := { stood := { row := fnExactSnapshotTextRow, standIns := [], harness := (true, "434904b42144d52037ee500edba9d06f60c4a4d69a42f59c34227342eba6f059"), looks := true }, kinds := [], alts := [], laidByText := true, laidKinds := [.data, .data, .data], laidTests := true, laidLooks := .later }
def FnExactSnapshotTextCardSaid : Prop := Claim7.holds Tryd.pinned (.plain (OpenSpec.ofChange fnExactSnapshotTextSpec)) fnExactSnapshotTextCard

/-- THE TIED CARD OF 'laws.FnExactParseSnapshot'. -/
def fnExactParseSnapshotCard : Claim7 := { stood := { row := fnExactParseSnapshotRow, standIns := [], harness := (true, "434904b42144d52037ee500edba9d06f60c4a4d69a42f59c34227342eba6f059"), looks := true }, kinds := [], alts := [], laidByText := true, laidKinds := [.data, .data, .data, .data, .pinned], laidTests := true, laidLooks := .later }
def FnExactParseSnapshotCardSaid : Prop := Claim7.holds Tryd.pinned (.plain (OpenSpec.ofChange fnExactParseSnapshotSpec)) fnExactParseSnapshotCard

/-- THE TIED CARD OF 'laws.FnExactEncodeChunks'. -/
def fnExactEncodeChunksCard : Claim7 := { stood := { row := fnExactEncodeChunksRow, standIns := [], harness := (true, "434904b42144d52037ee500edba9d06f60c4a4d69a42f59c34227342eba6f059"), looks := true }, kinds := [], alts := [], laidByText := true, laidKinds := [.data, .data, .data], laidTests := true, laidLooks := .later }
def FnExactEncodeChunksCardSaid : Prop := Claim7.holds Tryd.pinned (.plain (OpenSpec.ofChange fnExactEncodeChunksSpec)) fnExactEncodeChunksCard

/-- THE TIED CARD OF 'laws.FnExactReceiveChunk'. -/
def fnExactReceiveChunkCard : Claim7 := { stood := { row := fnExactReceiveChunkRow, standIns := [], harness := (true, "434904b42144d52037ee500edba9d06f60c4a4d69a42f59c34227342eba6f059"), looks := true }, kinds := [], alts := [], laidByText := true, laidKinds := [.data, .data, .data, .sentinel, .sentinel, .sentinel], laidTests := true, laidLooks := .later }
def FnExactReceiveChunkCardSaid : Prop := Claim7.holds Tryd.pinned (.plain (OpenSpec.ofChange fnExactReceiveChunkSpec)) fnExactReceiveChunkCard

/-- THE TIED CARD OF 'laws.FnExactJoinChunks'. -/
def fnExactJoinChunksCard : Claim7 := { stood := { row := fnExactJoinChunksRow, standIns := [], harness := (true, "434904b42144d52037ee500edba9d06f60c4a4d69a42f59c34227342eba6f059"), looks := true }, kinds := [], alts := [], laidByText := true, laidKinds := [.data, .data, .data], laidTests := true, laidLooks := .later }
def FnExactJoinChunksCardSaid : Prop := Claim7.holds Tryd.pinned (.plain (OpenSpec.ofChange fnExactJoinChunksSpec)) fnExactJoinChunksCard

/-- THE SECOND FORM's CARD OF 'laws.FnExactParseMachine'. -/
def fnExactParseMachineUptoCard : Claim7 := { stood := { row := fnExactParseMachineUptoRow, standIns := [], harness := (true, "434904b42144d52037ee500edba9d06f60c4a4d69a42f59c34227342eba6f059"), looks := true }, kinds := [], alts := [], laidByText := true, laidKinds := [.data, .data, .data, .data, .pinned], laidTests := true, laidLooks := .later }
def FnExactParseMachineUptoCardSaid : Prop := Claim7.holds Tryd.pinned (.plain (OpenSpec.upto fnExactParseMachineSpec)) fnExactParseMachineUptoCard

/-- THE SECOND FORM's CARD OF 'laws.FnExactParseLog'. -/
def fnExactParseLogUptoCard : Claim7 := { stood := { row := fnExactParseLogUptoRow, standIns := [], harness := (true, "434904b42144d52037ee500edba9d06f60c4a4d69a42f59c34227342eba6f059"), looks := true }, kinds := [], alts := [], laidByText := true, laidKinds := [.data, .data, .data, .data, .pinned], laidTests := true, laidLooks := .later }
def FnExactParseLogUptoCardSaid : Prop := Claim7.holds Tryd.pinned (.plain (OpenSpec.upto fnExactParseLogSpec)) fnExactParseLogUptoCard

/-- THE SECOND FORM's CARD OF 'laws.FnExactSnapshotText'. -/
def fnExactSnapshotTextUptoCard : Claim7 := { stood := { row := fnExactSnapshotTextUptoRow, standIns := [], harness := (true, "434904b42144d52037ee500edba9d06f60c4a4d69a42f59c34227342eba6f059"), looks := true }, kinds := [], alts := [], laidByText := true, laidKinds := [.data, .data, .data], laidTests := true, laidLooks := .later }
def FnExactSnapshotTextUptoCardSaid : Prop := Claim7.holds Tryd.pinned (.plain (OpenSpec.upto fnExactSnapshotTextSpec)) fnExactSnapshotTextUptoCard

/-- THE SECOND FORM's CARD OF 'laws.FnExactParseSnapshot'. -/
def fnExactParseSnapshotUptoCard : Claim7 := { stood := { row := fnExactParseSnapshotUptoRow, standIns := [], harness := (true, "434904b42144d52037ee500edba9d06f60c4a4d69a42f59c34227342eba6f059"), looks := true }, kinds := [], alts := [], laidByText := true, laidKinds := [.data, .data, .data, .data, .pinned], laidTests := true, laidLooks := .later }
def FnExactParseSnapshotUptoCardSaid : Prop := Claim7.holds Tryd.pinned (.plain (OpenSpec.upto fnExactParseSnapshotSpec)) fnExactParseSnapshotUptoCard

/-- THE SECOND FORM's CARD OF 'laws.FnExactEncodeChunks'. -/
def fnExactEncodeChunksUptoCard : Claim7 := { stood := { row := fnExactEncodeChunksUptoRow, standIns := [], harness := (true, "434904b42144d52037ee500edba9d06f60c4a4d69a42f59c34227342eba6f059"), looks := true }, kinds := [], alts := [], laidByText := true, laidKinds := [.data, .data, .data], laidTests := true, laidLooks := .later }
def FnExactEncodeChunksUptoCardSaid : Prop := Claim7.holds Tryd.pinned (.plain (OpenSpec.upto fnExactEncodeChunksSpec)) fnExactEncodeChunksUptoCard

/-- THE SECOND FORM's CARD OF 'laws.FnExactReceiveChunk'. -/
def fnExactReceiveChunkUptoCard : Claim7 := { stood := { row := fnExactReceiveChunkUptoRow, standIns := [], harness := (true, "434904b42144d52037ee500edba9d06f60c4a4d69a42f59c34227342eba6f059"), looks := true }, kinds := [], alts := [], laidByText := true, laidKinds := [.data, .data, .data, .sentinel, .sentinel, .sentinel], laidTests := true, laidLooks := .later }
def FnExactReceiveChunkUptoCardSaid : Prop := Claim7.holds Tryd.pinned (.plain (OpenSpec.upto fnExactReceiveChunkSpec)) fnExactReceiveChunkUptoCard

/-- THE SECOND FORM's CARD OF 'laws.FnExactJoinChunks'. -/
def fnExactJoinChunksUptoCard : Claim7 := { stood := { row := fnExactJoinChunksUptoRow, standIns := [], harness := (true, "434904b42144d52037ee500edba9d06f60c4a4d69a42f59c34227342eba6f059"), looks := true }, kinds := [], alts := [], laidByText := true, laidKinds := [.data, .data, .data], laidTests := true, laidLooks := .later }
def FnExactJoinChunksUptoCardSaid : Prop := Claim7.holds Tryd.pinned (.plain (OpenSpec.upto fnExactJoinChunksSpec)) fnExactJoinChunksUptoCard
end Rows
end Go.Proofs.YtkkgonkpmdlelaaDoor
