/-
  Chapter 3, operations: what impl's IsValidOp returns, for every six ints; the kinds behind an interface.
-/
import Derived.Test.YtkkgonkpmdlelabS3Plain
namespace Go.Proofs.Ytkkgonkpmdlelab.kit
open Go.ChangeShapes Go.WideShapes Go.ChangeAt Go.RowKit
set_option linter.unusedVariables false


end Go.Proofs.Ytkkgonkpmdlelab.kit
