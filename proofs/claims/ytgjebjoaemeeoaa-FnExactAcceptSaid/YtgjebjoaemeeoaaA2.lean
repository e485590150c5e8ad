/-
  A struct with two rows of ints of the call's own, as what lies in a slot: for regions whose result is such a struct.
-/
import Derived.Test.YtgjebjoaemeeoaaS10Box
namespace Go.Proofs.Ytgjebjoaemeeoaa.kit
open Go.ChangeShapes Go.WideShapes Go.ChangeAt Go.RowKit
set_option linter.unusedVariables false
def isA2 (N : Nat) (ap : Bool) (k : Value → Value → Value) (L1 L2 : List Int) : Value → World → Prop := fun v w => ∃ x1 x2, v = k x1 x2 ∧ OwnI N w x1 L1 ∧ OwnI N w x2 L2 ∧ (ap = true → Apart x1 x2)
theorem isA2_mono (N : Nat) (ap : Bool) (k : Value → Value → Value) (L1 L2 : List Int) : Mono (isA2 N ap k L1 L2) := fun _ _ _ ⟨x1, x2, h, h1, h2, h3⟩ hb => ⟨x1, x2, h, h1.later hb, h2.later hb, h3⟩
theorem below4 {B b : Nat} {w W : World} (h : Below B w W) (hb : B ≤ b) (x0 x1 x2 x3 : Value) :
    Below B w ((((W.setCell ⟨b, 0, none⟩ x0).setCell ⟨b, 1, none⟩ x1).setCell ⟨b, 2, none⟩ x2).setCell ⟨b, 3, none⟩ x3) :=
  (((h.setCell (p := ⟨b, 0, none⟩) hb x0).setCell (p := ⟨b, 1, none⟩) hb x1).setCell (p := ⟨b, 2, none⟩) hb x2).setCell (p := ⟨b, 3, none⟩) hb x3
end Go.Proofs.Ytgjebjoaemeeoaa.kit
