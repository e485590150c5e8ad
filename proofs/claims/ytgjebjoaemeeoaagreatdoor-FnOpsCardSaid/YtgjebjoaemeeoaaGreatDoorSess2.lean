/-
  The laws' helpers that copy, measure and compare sessions and machines.
-/
import Derived.Test.YtgjebjoaemeeoaaGreatDoorSess
import Derived.Handy
import Derived.OwnWalk
namespace Go.Proofs.YtgjebjoaemeeoaaGreatDoor.kit
open Go.ChangeShapes Go.WideShapes Go.ChangeAt Go.RowKit
set_option linter.unusedVariables false

theorem sg_rep (n j : Nat) : sg (List.replicate n z0) j = z0 := by
  by_cases h : j < n
  · simp [sg, List.getD, h]
  · simp [sg, List.getD, h]
theorem made_sess (n : Nat) : (madeCells #[.int .i64 0, .int .i64 0, .bool false, .int .i64 0] (n * 4)).toList = cellsS (List.replicate n z0) := by
  apply List.ext_getElem?
  intro j
  by_cases hj : j < n * 4
  · have e : j = j / 4 * 4 + j % 4 := by omega
    have h1 : (cellsS (List.replicate n z0))[j]? = (sessC z0)[j % 4]? := by
      conv => lhs; rw [e]
      rw [cellsS_at _ (j / 4) (by simp; omega) (j % 4) (by omega), sg_rep]
    rw [h1]
    have h4 : j % 4 < 4 := by omega
    simp only [madeCells, Array.toList_map, List.getElem?_map, Array.toList_range, List.getElem?_range hj, Option.map_some]
    generalize j % 4 = k at h4
    match k, h4 with
    | 0, _ => rfl
    | 1, _ => rfl
    | 2, _ => rfl
    | 3, _ => rfl
  · rw [List.getElem?_eq_none (by simp [madeCells]; omega), List.getElem?_eq_none (by rw [cellsS_len]; simp; omega)]
theorem set_app_mid {α : Type} (a b c : List α) (i : Nat) (x : α) (hi : i < b.length) : (a ++ b ++ c).set (a.length + i) x = a ++ b.set i x ++ c := by
  rw [List.set_append_left (h := by simp; omega), List.set_append_right (h := by omega)]
  congr 2
  rw [Nat.add_sub_cancel_left]
/-- the row's list behind a store of a whole session -/
theorem cellsS_set (l : List Sess) (k : Nat) (x : Sess) (hk : k < l.length) :
    ((((cellsS l).set (k * 4) (.int .i64 x.1)).set (k * 4 + 1) (.int .i64 x.2.1)).set (k * 4 + 2) (.bool x.2.2.1)).set (k * 4 + 3) (.int .i64 x.2.2.2) = cellsS (l.set k x) := by
  have e : l = l.take k ++ [l[k]] ++ l.drop (k + 1) := by simp
  have e2 : l.set k x = l.take k ++ [x] ++ l.drop (k + 1) := by rw [List.set_eq_take_append_cons_drop]; simp [hk]
  have hl : (cellsS (l.take k)).length = k * 4 := by rw [cellsS_len]; simp; omega
  rw [e2]
  conv => lhs; rw [e]
  simp only [cellsS_app]
  have f := fun (b : List Value) (i : Nat) (u : Value) (hb : i < b.length) => set_app_mid (cellsS (l.take k)) b (cellsS (l.drop (k + 1))) i u hb
  rw [hl] at f
  have f0 := f (cellsS [l[k]]) 0 (.int .i64 x.1) (by simp [cellsS])
  simp only [Nat.add_zero] at f0
  rw [f0, f _ 1 _ (by simp [cellsS]), f _ 2 _ (by simp [cellsS]), f _ 3 _ (by simp [cellsS])]
  simp [cellsS]
/-- what copying k sessions of n has laid -/
def part (L : List Sess) (k : Nat) : List Sess := L.take k ++ List.replicate (L.length - k) z0
theorem part_len (L : List Sess) (k : Nat) (h : k ≤ L.length) : (part L k).length = L.length := by simp [part]; omega
theorem part_zero (L : List Sess) : part L 0 = List.replicate L.length z0 := by simp [part]
theorem part_all (L : List Sess) : part L L.length = L := by simp [part]
theorem part_set (L : List Sess) (k : Nat) (h : k < L.length) : (part L k).set k (sg L k) = part L (k + 1) := by
  unfold part
  have e : L.length - k = (L.length - (k + 1)) + 1 := by omega
  rw [e, List.replicate_succ, List.set_append_right (h := by simp; omega)]
  have e2 : k - (L.take k).length = 0 := by simp; omega
  rw [e2, List.set_cons_zero, sg_eq h, List.take_succ_eq_append_getElem h, List.append_assoc]
  rfl
end Go.Proofs.YtgjebjoaemeeoaaGreatDoor.kit
