/-
  Configurations: a configuration of the law's that came in; the laws' helpers that copy, compare, mark and check configurations.
-/
import Derived.Test.YtibpajlfcknegaaIntsB
import Derived.Test.YtibpajlfcknegaaStructs
import Derived.Deep.DeepCutAuto
import Derived.Handy
import Derived.OwnWalk
import Derived.Test.YtibpajlfcknegaaBoxC
namespace Go.Proofs.Ytibpajlfcknegaa.kit
open Go.ChangeShapes Go.WideShapes Go.ChangeAt Go.RowKit Go.Deep
set_option linter.unusedVariables false

/-- two rows of the call's own lie in blocks of their own -/
def Apart (v1 v2 : Value) : Prop := ∀ g, v1.ownBlock = some g → v2.ownBlock = some g → False
theorem Apart.symm {v1 v2 : Value} (h : Apart v1 v2) : Apart v2 v1 := fun g a b => h g b a
theorem apart_of {b1 b2 : Nat} {w1 w2 : World} {v1 v2 : Value} {l1 l2 : List Int} (h1 : OwnI b1 w1 v1 l1) (h2 : OwnI b2 w2 v2 l2) (h : w1.heap.size ≤ b2) : Apart v1 v2 := fun g e1 e2 => by
  have a := (h1.block g e1).2
  have b := (h2.block g e2).1
  omega
theorem apart_nil (v : Value) (l c : Nat) : Apart v (.slice none l c) := fun g _ e => by cases e
theorem nil_apart (v : Value) (l c : Nat) : Apart (.slice none l c) v := fun g e _ => by cases e
end Go.Proofs.Ytibpajlfcknegaa.kit
