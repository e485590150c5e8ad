/-
  Chapter 4: machines copied: slices.Clone, impl's copyMachine, spec's l4Copy.
-/
import Derived.Test.YtgjebjoaemeeoaaGreatDoorS4Rows
import Derived.Test.YtgjebjoaemeeoaaGreatDoorKept
import Derived.Deep.RegionWith
import Derived.Deep.RegionHeld3
import Derived.Lib.SliceRun
namespace Go.Proofs.YtgjebjoaemeeoaaGreatDoor.kit
open Go.ChangeShapes Go.WideShapes Go.ChangeAt Go.RowKit
set_option linter.unusedVariables false

end Go.Proofs.YtgjebjoaemeeoaaGreatDoor.kit
