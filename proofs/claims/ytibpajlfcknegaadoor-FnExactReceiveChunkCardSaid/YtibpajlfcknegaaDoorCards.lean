/-
  DERIVED. GIVEN WITH THE SEED: THE CARDS: each row of YtibpajlfcknegaaDoorRows.lean that lists a variable, with what it lists TIED to the program's text (the seventh form; the later family's looks); each row that meets fmt, with fmt's text TOLD by the authors' own Lean function (tested against real Go, not proved from fmt's source: count such statements apart). THE CARD IS WHAT COUNTS. Prove the row's statement (the work); the ties are given (YtibpajlfcknegaaDoorTie.lean); close each card by the builder's one call (the guide's Derived/Test/ToyasCard.lean, 'card_holds'). Laid BY PROGRAM, IN A SANDBOX (cutbox-door.mjs). By AI agents, Wed Nov 11 2026. No macro, syntax, notation, axiom, sorry.
-/
import Derived.Test.YtibpajlfcknegaaDoorRows
import GoSem.ClaimSeven
namespace Go.Proofs.YtibpajlfcknegaaDoor
namespace Rows

/-- THE TIED CARD OF 'laws.FnExactParseMachine'. -/
def fnExactParseMachineCard : Claim7 := { stood := { row := fnExactParseMachineRow, standIns := [], harness := (true, "9e9cabcf98ec960306450741b819918f9f08f561c6298f1130c81d37bbaef793"), looks := true }, kinds := [], alts := [], laidByText := true, laidKinds := [.data, .data, .data, .data, .pinned], laidTests := true, laidLooks := .later }
def FnExactParseMachineCardSaid : Prop := Claim7.holds Tryd.pinned (.plain (OpenSpec.ofChange fnExactParseMachineSpec)) fnExactParseMachineCard

/-- THE TIED CARD OF 'laws.FnExactParseSnapshot'. -/
def fnExactParseSnapshotCard : Claim7 := { stood := { row := fnExactParseSnapshotRow, standIns := [], harness := (true, "9e9cabcf98ec960306450741b819918f9f08f561c6298f1130c81d37bbaef793"), looks := true }, kinds := [], alts := [], laidByText := true, laidKinds := [.data, .data, .data, .data, .pinned], laidTests := true, laidLooks := .later }
def FnExactParseSnapshotCardSaid : Prop := Claim7.holds Tryd.pinned (.plain (OpenSpec.ofChange fnExactParseSnapshotSpec)) fnExactParseSnapshotCard

/-- THE TIED CARD OF 'laws.FnExactReceiveChunk'. -/
def fnExactReceiveChunkCard : Claim7 := { stood := { row := fnExactReceiveChunkRow, standIns := [], harness := (true, "9e9cabcf98ec960306450741b819918f9f08f561c6298f1130c81d37bbaef793"), looks := true }, kinds := [], alts := [], laidByText := true, laidKinds := [.data, .data, .data, .sentinel, .sentinel, .sentinel], laidTests := true, laidLooks := .later }
def FnExactReceiveChunkCardSaid : Prop := Claim7.holds Tryd.pinned (.plain (OpenSpec.ofChange fnExactReceiveChunkSpec)) fnExactReceiveChunkCard

/-- THE SECOND FORM's CARD OF 'laws.FnExactParseMachine'. -/
def fnExactParseMachineUptoCard : Claim7 := { stood := { row := fnExactParseMachineUptoRow, standIns := [], harness := (true, "9e9cabcf98ec960306450741b819918f9f08f561c6298f1130c81d37bbaef793"), looks := true }, kinds := [], alts := [], laidByText := true, laidKinds := [.data, .data, .data, .data, .pinned], laidTests := true, laidLooks := .later }
def FnExactParseMachineUptoCardSaid : Prop := Claim7.holds Tryd.pinned (.plain (OpenSpec.upto fnExactParseMachineSpec)) fnExactParseMachineUptoCard

/-- THE SECOND FORM's CARD OF 'laws.FnExactParseSnapshot'. -/
def fnExactParseSnapshotUptoCard : Claim7 := { stood := { row := fnExactParseSnapshotUptoRow, standIns := [], harness := (true, "9e9cabcf98ec960306450741b819918f9f08f561c6298f1130c81d37bbaef793"), looks := true }, kinds := [], alts := [], laidByText := true, laidKinds := [.data, .data, .data, .data, .pinned], laidTests := true, laidLooks := .later }
def FnExactParseSnapshotUptoCardSaid : Prop := Claim7.holds Tryd.pinned (.plain (OpenSpec.upto fnExactParseSnapshotSpec)) fnExactParseSnapshotUptoCard

/-- THE SECOND FORM's CARD OF 'laws.FnExactReceiveChunk'. -/
def fnExactReceiveChunkUptoCard : Claim7 := { stood := { row := fnExactReceiveChunkUptoRow, standIns := [], harness := (true, "9e9cabcf98ec960306450741b819918f9f08f561c6298f1130c81d37bbaef793"), looks := true }, kinds := [], alts := [], laidByText := true, laidKinds := [.data, .data, .data, .sentinel, .sentinel, .sentinel], laidTests := true, laidLooks := .later }
def FnExactReceiveChunkUptoCardSaid : Prop := Claim7.holds Tryd.pinned (.plain (OpenSpec.upto fnExactReceiveChunkSpec)) fnExactReceiveChunkUptoCard
end Rows
end Go.Proofs.YtibpajlfcknegaaDoor
