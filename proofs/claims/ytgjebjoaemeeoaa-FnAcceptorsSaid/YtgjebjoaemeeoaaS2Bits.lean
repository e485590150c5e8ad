/-
  Chapter 2: the numbers of a set of bits, by the program.
-/
import Derived.Test.YtgjebjoaemeeoaaS2Plain
namespace Go.Proofs.Ytgjebjoaemeeoaa.kit
open Go.ChangeShapes Go.WideShapes Go.ChangeAt Go.RowKit
set_option linter.unusedVariables false
set_option linter.unusedSimpArgs false

def bitsTo (m k : Nat) : List Int := ((List.range k).filter fun i => m.testBit i).map fun i => ((i : Nat) : Int)
theorem bitsTo_snoc (m k : Nat) : bitsTo m (k + 1) = if m.testBit k = true then bitsTo m k ++ [(k : Int)] else bitsTo m k := by
  unfold bitsTo
  rw [List.range_succ, List.filter_append, List.map_append]
  by_cases h : m.testBit k = true
  · rw [if_pos h, List.filter_cons, if_pos h]; rfl
  · rw [if_neg h, List.filter_cons, if_neg h]; simp
theorem bitsTo_len (m k : Nat) : (bitsTo m k).length ≤ k := by
  unfold bitsTo
  rw [List.length_map]
  have := List.length_filter_le (fun i => m.testBit i) (List.range k)
  simpa using this
end Go.Proofs.Ytgjebjoaemeeoaa.kit
