/-
  Chapter 3, operations: what spec's and impl's IsValidOp and IsNewFormat return, for every six ints.
-/
import Derived.Test.YtkkgonkpmdlelabC1Fixed
import Derived.Test.YtkkgonkpmdlelabStructs
import Derived.Handy
import Derived.OwnWalk
namespace Go.Proofs.Ytkkgonkpmdlelab.kit
open Go.ChangeShapes Go.WideShapes Go.ChangeAt Go.RowKit
set_option linter.unusedVariables false

/-- an operation's value: Client, Seq, Kind, Object, Old, Value -/
abbrev opV (c s k o d v : Int) : Value := .agg #[.int .i64 c, .int .i64 s, .int .i64 k, .int .i64 o, .int .i64 d, .int .i64 v]
def okC (c : Int) : Bool := decide (0 ≤ c ∧ c ≤ 2)
def okS (s : Int) : Bool := decide (1 ≤ s ∧ s ≤ 99)
def okV (v : Int) : Bool := decide (0 ≤ v ∧ v ≤ 9)
def okOp (c s k o d v : Int) : Bool := okC c && okS s && okC o && okV v && ((k == 1 && d == 0) || (k == 2 && okV d))

def newOp (c s k o d v : Int) : Bool := k == 2



end Go.Proofs.Ytkkgonkpmdlelab.kit
