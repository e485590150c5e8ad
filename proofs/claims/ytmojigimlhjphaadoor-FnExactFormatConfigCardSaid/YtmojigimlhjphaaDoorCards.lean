/-
  DERIVED. GIVEN WITH THE SEED: THE CARDS: each row of YtmojigimlhjphaaDoorRows.lean that lists a variable, with what it lists TIED to the program's text (the seventh form; the later family's looks); each row that meets fmt, with fmt's text TOLD by the authors' own Lean function (tested against real Go, not proved from fmt's source: count such statements apart). THE CARD IS WHAT COUNTS. Prove the row's statement (the work); the ties are given (YtmojigimlhjphaaDoorTie.lean); close each card by the builder's one call (the guide's Derived/Test/ToyasCard.lean, 'card_holds'). Laid BY PROGRAM, IN A SANDBOX (cutbox-door.mjs). By AI agents, Wed Nov 11 2026. No macro, syntax, notation, axiom, sorry.
-/
import Derived.Test.YtmojigimlhjphaaDoorRows
import GoSem.ClaimSeven
namespace Go.Proofs.YtmojigimlhjphaaDoor
namespace Rows

/-- THE TIED CARD OF 'laws.FnExactFormatConfig'. -/
def fnExactFormatConfigCard : Claim7 := { stood := { row := fnExactFormatConfigRow, standIns := [], harness := (true, "0b5e428cba9abeda7f4a6cd49d9a7d8b65e6e40697c7740c30c7be62049f7f8e"), looks := false }, kinds := [], alts := [], laidByText := true, laidKinds := [.data, .data, .data], laidTests := true, laidLooks := .later }
def FnExactFormatConfigCardSaid : Prop := Claim7.holds Tryd.pinned (.plain (OpenSpec.ofChange fnExactFormatConfigSpec)) fnExactFormatConfigCard

/-- THE TIED CARD OF 'laws.FnExactParseConfig'. -/
def fnExactParseConfigCard : Claim7 := { stood := { row := fnExactParseConfigRow, standIns := [], harness := (true, "0b5e428cba9abeda7f4a6cd49d9a7d8b65e6e40697c7740c30c7be62049f7f8e"), looks := false }, kinds := [], alts := [], laidByText := true, laidKinds := [.data, .data, .data, .data, .pinned], laidTests := true, laidLooks := .later }
def FnExactParseConfigCardSaid : Prop := Claim7.holds Tryd.pinned (.plain (OpenSpec.ofChange fnExactParseConfigSpec)) fnExactParseConfigCard

/-- THE SECOND FORM's CARD OF 'laws.FnExactFormatConfig'. -/
def fnExactFormatConfigUptoCard : Claim7 := { stood := { row := fnExactFormatConfigUptoRow, standIns := [], harness := (true, "0b5e428cba9abeda7f4a6cd49d9a7d8b65e6e40697c7740c30c7be62049f7f8e"), looks := false }, kinds := [], alts := [], laidByText := true, laidKinds := [.data, .data, .data], laidTests := true, laidLooks := .later }
def FnExactFormatConfigUptoCardSaid : Prop := Claim7.holds Tryd.pinned (.plain (OpenSpec.upto fnExactFormatConfigSpec)) fnExactFormatConfigUptoCard

/-- THE SECOND FORM's CARD OF 'laws.FnExactParseConfig'. -/
def fnExactParseConfigUptoCard : Claim7 := { stood := { row := fnExactParseConfigUptoRow, standIns := [], harness := (true, "0b5e428cba9abeda7f4a6cd49d9a7d8b65e6e40697c7740c30c7be62049f7f8e"), looks := false }, kinds := [], alts := [], laidByText := true, laidKinds := [.data, .data, .data, .data, .pinned], laidTests := true, laidLooks := .later }
def FnExactParseConfigUptoCardSaid : Prop := Claim7.holds Tryd.pinned (.plain (OpenSpec.upto fnExactParseConfigSpec)) fnExactParseConfigUptoCard
end Rows
end Go.Proofs.YtmojigimlhjphaaDoor
