/-
  Lists of ints as results: the laws' helpers (equal, marked, held) under the names by which the law's own text calls them.
-/
import Derived.Test.YtmojigimlhjphaaInts
namespace Go.Proofs.Ytmojigimlhjphaa.kit
open Go.ChangeShapes Go.WideShapes Go.ChangeAt Go.RowKit
set_option linter.unusedVariables false
theorem eqIntSO (b1 b2 : Nat) (v1 v2 : Value) (l1 l2 : List Int) (w : World) (h1 : l1.length ≤ 4194304) (h2 : l2.length ≤ 4194304) (o1 : OwnI b1 w v1 l1) (o2 : OwnI b2 w v2 l2) :
    Calls Try.prog 38 #[v1, v2] w fun e w' => e = .returned (.bool (decide (l1 = l2))) ∧ Below w.heap.size w w' := eqIntS b1 v1 l1 b2 v2 l2 w h1 o1 h2 o2
theorem markIntS (base : Nat) (k : Int) (v : Value) (l : List Int) (w : World) (hl : l.length ≤ 4194304) (hk0 : 0 ≤ k) (hk : k ≤ 1000000000) (hown : OwnI base w v l) :
    Calls Try.prog 40 #[v, .int .i64 k] w fun e w' => e = .returned (.int .i64 (k + (l.length : Int))) ∧ OwnI base w' v (marks k l.length) ∧ w.grownBy w' v.ownBlock := markIntS_any base k v l w hl hk0 hk hown
theorem heldIntS (base : Nat) (k : Int) (n : Nat) (v : Value) (w : World) (hl : n ≤ 4194304) (hk0 : 0 ≤ k) (hk : k ≤ 1000000000) (hown : OwnI base w v (marks k n)) :
    Calls Try.prog 41 #[v, .int .i64 k] w fun e w' => e = .returned (.int .i64 (k + (n : Int))) ∧ w = w' := heldIntS_any base k n v w hl hk0 hk hown
end Go.Proofs.Ytmojigimlhjphaa.kit
