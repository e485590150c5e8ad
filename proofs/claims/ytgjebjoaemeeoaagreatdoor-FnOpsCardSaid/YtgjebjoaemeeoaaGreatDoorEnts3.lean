/-
  The laws' helpers that compare, mark and check slices of Entry. Written by tools/gen_rows.py.
-/
import Derived.Test.YtgjebjoaemeeoaaGreatDoorEnts2
import Derived.StillTailTactics
import Derived.Deep.RegionWith
import Derived.Deep.RegionHeld3
namespace Go.Proofs.YtgjebjoaemeeoaaGreatDoor.kit
open Go.ChangeShapes Go.WideShapes Go.ChangeAt Go.RowKit
set_option linter.unusedVariables false

theorem eq_takeE {a b : List Ent} {k : Nat} (hl : a.length = b.length) (hk : a.length ≤ k) (h : ∀ j, j < k → gE a j = gE b j) : a = b := by
  apply List.ext_getElem hl
  intro j h1 h2
  have := h j (by omega)
  rw [gE_eq h1, gE_eq h2] at this
  exact this
/-- what marking leaves -/
def markE (k : Int) (j : Nat) : Ent := ⟨k + 7 * (j : Int), k + 7 * (j : Int) + 1, k + 7 * (j : Int) + 1 + 1, k + 7 * (j : Int) + 1 + 1 + 1, k + 7 * (j : Int) + 1 + 1 + 1 + 1, k + 7 * (j : Int) + 1 + 1 + 1 + 1 + 1, k + 7 * (j : Int) + 1 + 1 + 1 + 1 + 1 + 1⟩
def marksE (k : Int) (n : Nat) : List Ent := (List.range n).map (markE k)
theorem marksE_len (k : Int) (n : Nat) : (marksE k n).length = n := by simp [marksE]
theorem marksE_get (k : Int) (n j : Nat) (h : j < n) : gE (marksE k n) j = markE k j := by simp [marksE, gE, List.getD, h]
theorem marksE_succ (k : Int) (j : Nat) : marksE k (j + 1) = marksE k j ++ [markE k j] := by simp [marksE, List.range_succ]
theorem marksE_set (k : Int) (j : Nat) (l : List Ent) (h : j < l.length) : (marksE k j ++ l.drop j).set j (markE k j) = marksE k (j + 1) ++ l.drop (j + 1) := by
  rw [marksE_succ, List.drop_eq_getElem_cons h, List.set_append_right (h := by rw [marksE_len]; exact Nat.le_refl _), marksE_len, Nat.sub_self, List.set_cons_zero, List.append_assoc]
  rfl
end Go.Proofs.YtgjebjoaemeeoaaGreatDoor.kit
