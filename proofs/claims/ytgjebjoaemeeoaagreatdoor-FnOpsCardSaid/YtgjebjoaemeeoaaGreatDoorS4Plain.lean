/-
  Chapter 4: what IsValidMachine says, as a plain function.
-/
import Derived.Test.YtgjebjoaemeeoaaGreatDoorMach
import Derived.Test.YtgjebjoaemeeoaaGreatDoorS3Impl
namespace Go.Proofs.YtgjebjoaemeeoaaGreatDoor.kit
open Go.ChangeShapes Go.WideShapes Go.ChangeAt Go.RowKit
set_option linter.unusedVariables false

def sessOk (x : Sess) : Bool := okC x.1 && (okS x.2.1 && okV x.2.2.2)
/-- the j-th session is valid and its client follows the one before -/
def sessAsc (l : List Sess) (j : Nat) : Prop := sessOk (sg l j) = true ∧ (0 < j → (sg l (j - 1)).1 < (sg l j).1)
instance (l : List Sess) (j : Nat) : Decidable (sessAsc l j) := by unfold sessAsc; infer_instance
def MOk (L1 : List Int) (L2 : List Sess) : Prop := L1.length = 3 ∧ (∀ j, j < L1.length → okV (L1.getD j 0) = true) ∧ ∀ j, j < L2.length → sessAsc L2 j
instance (L1 : List Int) (L2 : List Sess) : Decidable (MOk L1 L2) := by unfold MOk; infer_instance
/-- the first session of a client; the zero value if there is none -/
def findS (l : List Sess) (c : Int) : Option Sess := l.find? (fun x => x.1 == c)
def sessOf (l : List Sess) (c : Int) : Sess := (findS l c).getD z0
def hasSess (l : List Sess) (c : Int) : Bool := (findS l c).isSome
def readOk (L1 : List Int) (L2 : List Sess) (o : Int) : Bool := decide (MOk L1 L2) && decide (0 ≤ o ∧ o ≤ 2)
def readO (L1 : List Int) (L2 : List Sess) (o : Int) : Int := if readOk L1 L2 o then L1.getD o.toNat 0 else 0
end Go.Proofs.YtgjebjoaemeeoaaGreatDoor.kit
