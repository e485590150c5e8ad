/-
  Chapter 3, operations: what spec's and impl's IsValidOp and IsNewFormat return, for every six ints.
-/
import Derived.Test.YtibpajlfcknegaaDoorC1Fixed
import Derived.Test.YtibpajlfcknegaaDoorStructs
import Derived.Handy
import Derived.OwnWalk
namespace Go.Proofs.YtibpajlfcknegaaDoor.kit
open Go.ChangeShapes Go.WideShapes Go.ChangeAt Go.RowKit
set_option linter.unusedVariables false

/-- an operation's value: Client, Seq, Kind, Object, Old, Value -/
abbrev opV (c s k o d v : Int) : Value := .agg #[.int .i64 c, .int .i64 s, .int .i64 k, .int .i64 o, .int .i64 d, .int .i64 v]
def okC (c : Int) : Bool := decide (0 ≤ c ∧ c ≤ 2)
def okS (s : Int) : Bool := decide (1 ≤ s ∧ s ≤ 99)
def okV (v : Int) : Bool := decide (0 ≤ v ∧ v ≤ 9)
def okOp (c s k o d v : Int) : Bool := okC c && okS s && okC o && okV v && ((k == 1 && d == 0) || (k == 2 && okV d))

def newOp (c s k o d v : Int) : Bool := k == 2


theorem in_c (x a b : Int) (w : World) : Calls Tryd.prog 57 #[.int .i64 x, .int .i64 a, .int .i64 b] w fun e w' => e = .returned (.bool (decide (a ≤ x ∧ x ≤ b))) ∧ w = w' := by
  by_cases h1 : a ≤ x
  · by_cases h2 : x ≤ b
    · rw [decide_eq_true ⟨h1, h2⟩]; exact in_true x a b w h1 h2
    · rw [decide_eq_false (by omega)]; exact in_false x a b w (by omega)
  · rw [decide_eq_false (by omega)]; exact in_false x a b w (by omega)

end Go.Proofs.YtibpajlfcknegaaDoor.kit
