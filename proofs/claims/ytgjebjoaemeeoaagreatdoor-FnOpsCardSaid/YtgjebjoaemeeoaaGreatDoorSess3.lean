/-
  The laws' helpers on sessions and machines: equal, marked, held.
-/
import Derived.Test.YtgjebjoaemeeoaaGreatDoorSess2
import Derived.StillTailTactics
import Derived.Deep.RegionWith
import Derived.Deep.RegionHeld3
namespace Go.Proofs.YtgjebjoaemeeoaaGreatDoor.kit
open Go.ChangeShapes Go.WideShapes Go.ChangeAt Go.RowKit
set_option linter.unusedVariables false

theorem eq_takeS {a b : List Sess} {k : Nat} (hl : a.length = b.length) (hk : a.length ≤ k) (h : ∀ j, j < k → sg a j = sg b j) : a = b := by
  apply List.ext_getElem hl
  intro j h1 h2
  have := h j (by omega)
  rw [sg_eq h1, sg_eq h2] at this
  exact this
/-- what marking leaves, session for session -/
def markS (k : Int) (j : Nat) : Sess := (k + 4 * (j : Int), k + 4 * (j : Int) + 1, ((k + 4 * (j : Int) + 1 + 1) % 3 == 0), k + 4 * (j : Int) + 1 + 1 + 1)
def marksS (k : Int) (n : Nat) : List Sess := (List.range n).map (markS k)
theorem marksS_len (k : Int) (n : Nat) : (marksS k n).length = n := by simp [marksS]
theorem marksS_get (k : Int) (n j : Nat) (h : j < n) : sg (marksS k n) j = markS k j := by simp [marksS, sg, List.getD, h]
theorem marksS_succ (k : Int) (j : Nat) : marksS k (j + 1) = marksS k j ++ [markS k j] := by simp [marksS, List.range_succ]
theorem marksS_set (k : Int) (j : Nat) (l : List Sess) (h : j < l.length) : (marksS k j ++ l.drop j).set j (markS k j) = marksS k (j + 1) ++ l.drop (j + 1) := by
  rw [marksS_succ, List.drop_eq_getElem_cons h, List.set_append_right (h := by rw [marksS_len]; exact Nat.le_refl _), marksS_len, Nat.sub_self, List.set_cons_zero, List.append_assoc]
  rfl
end Go.Proofs.YtgjebjoaemeeoaaGreatDoor.kit
