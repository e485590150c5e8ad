/-
  DERIVED. GIVEN WITH THE SEED: THE CARDS: each row of YtbnepdecfnhgoabDoorRows.lean that lists a variable, with what it lists TIED to the program's text (the seventh form; the later family's looks); each row that meets fmt, with fmt's text TOLD by the authors' own Lean function (tested against real Go, not proved from fmt's source: count such statements apart). THE CARD IS WHAT COUNTS. Prove the row's statement (the work); the ties are given (YtbnepdecfnhgoabDoorTie.lean); close each card by the builder's one call (the guide's Derived/Test/ToyasCard.lean, 'card_holds'). Laid BY PROGRAM, IN A SANDBOX (cutbox-door.mjs). By AI agents, Wed Nov 11 2026. No macro, syntax, notation, axiom, sorry.
-/
import Derived.Test.YtbnepdecfnhgoabDoorRows
import GoSem.ClaimSeven
namespace Go.Proofs.YtbnepdecfnhgoabDoor
namespace Rows

/-- THE TIED CARD OF 'laws.FnExactProvesPrefix'. -/
def fnExactProvesPrefixCard : Claim7 := { stood := { row := fnExactProvesPrefixRow, standIns := [], harness := (true, "1e45090fa630bbb935f0a3d218b2840bac21242ef7040a481dfca6ea89a89647"), looks := false }, kinds := [], alts := [], laidByText := true, laidKinds := [.data, .data, .data], laidTests := true, laidLooks := .later }
def FnExactProvesPrefixCardSaid : Prop := Claim7.holds Tryd.pinned (.plain (OpenSpec.ofChange fnExactProvesPrefixSpec)) fnExactProvesPrefixCard

/-- THE SECOND FORM's CARD OF 'laws.FnExactProvesPrefix'. -/
def fnExactProvesPrefixUptoCard : Claim7 := { stood := { row := fnExactProvesPrefixUptoRow, standIns := [], harness := (true, "1e45090fa630bbb935f0a3d218b2840bac21242ef7040a481dfca6ea89a89647"), looks := false }, kinds := [], alts := [], laidByText := true, laidKinds := [.data, .data, .data], laidTests := true, laidLooks := .later }
def FnExactProvesPrefixUptoCardSaid : Prop := Claim7.holds Tryd.pinned (.plain (OpenSpec.upto fnExactProvesPrefixSpec)) fnExactProvesPrefixUptoCard
end Rows
end Go.Proofs.YtbnepdecfnhgoabDoor
