/-
  The laws' helpers that copy and measure slices of Entry. Written by tools/gen_rows.py.
-/
import Derived.Test.YtgjebjoaemeeoaaGreatDoorEnts
import Derived.Handy
import Derived.OwnWalk
namespace Go.Proofs.YtgjebjoaemeeoaaGreatDoor.kit
open Go.ChangeShapes Go.WideShapes Go.ChangeAt Go.RowKit
set_option linter.unusedVariables false

theorem gE_rep (n j : Nat) : gE (List.replicate n z0E) j = z0E := by
  by_cases h : j < n
  · simp [gE, List.getD, h]
  · simp [gE, List.getD, h]
theorem made_ent (n : Nat) : (madeCells #[.int .i64 0, .int .i64 0, .int .i64 0, .int .i64 0, .int .i64 0, .int .i64 0, .int .i64 0] (n * 7)).toList = cellsE (List.replicate n z0E) := by
  apply List.ext_getElem?
  intro j
  by_cases hj : j < n * 7
  · have e : j = j / 7 * 7 + j % 7 := by omega
    have h1 : (cellsE (List.replicate n z0E))[j]? = (entC z0E)[j % 7]? := by
      conv => lhs; rw [e]
      rw [cellsE_at _ (j / 7) (by simp; omega) (j % 7) (by omega), gE_rep]
    rw [h1]
    have h4 : j % 7 < 7 := by omega
    simp only [madeCells, Array.toList_map, List.getElem?_map, Array.toList_range, List.getElem?_range hj, Option.map_some]
    generalize j % 7 = k at h4
    match k, h4 with
    | 0, _ => rfl
    | 1, _ => rfl
    | 2, _ => rfl
    | 3, _ => rfl
    | 4, _ => rfl
    | 5, _ => rfl
    | 6, _ => rfl
  · rw [List.getElem?_eq_none (by simp [madeCells]; omega), List.getElem?_eq_none (by rw [cellsE_len]; simp; omega)]
/-- the row's list behind a store of a whole one -/
theorem cellsE_set (l : List Ent) (k : Nat) (x : Ent) (hk : k < l.length) :
    ((((((((cellsE l).set (k * 7) (.int .i64 x.e)).set (k * 7 + 1) (.int .i64 x.c)).set (k * 7 + 2) (.int .i64 x.s)).set (k * 7 + 3) (.int .i64 x.k)).set (k * 7 + 4) (.int .i64 x.o)).set (k * 7 + 5) (.int .i64 x.d)).set (k * 7 + 6) (.int .i64 x.v)) = cellsE (l.set k x) := by
  have e : l = l.take k ++ [l[k]] ++ l.drop (k + 1) := by simp
  have e2 : l.set k x = l.take k ++ [x] ++ l.drop (k + 1) := by rw [List.set_eq_take_append_cons_drop]; simp [hk]
  have hl : (cellsE (l.take k)).length = k * 7 := by rw [cellsE_len]; simp; omega
  rw [e2]
  conv => lhs; rw [e]
  simp only [cellsE_app]
  have f := fun (b : List Value) (i : Nat) (u : Value) (hb : i < b.length) => set_app_mid (cellsE (l.take k)) b (cellsE (l.drop (k + 1))) i u hb
  rw [hl] at f
  have f0 := f (cellsE [l[k]]) 0 (.int .i64 x.e) (by simp [cellsE])
  simp only [Nat.add_zero] at f0
  rw [f0, f _ 1 _ (by simp [cellsE]), f _ 2 _ (by simp [cellsE]), f _ 3 _ (by simp [cellsE]), f _ 4 _ (by simp [cellsE]), f _ 5 _ (by simp [cellsE]), f _ 6 _ (by simp [cellsE])]
  simp [cellsE]
/-- what copying k of them has laid -/
def partE (L : List Ent) (k : Nat) : List Ent := L.take k ++ List.replicate (L.length - k) z0E
theorem partE_len (L : List Ent) (k : Nat) (h : k ≤ L.length) : (partE L k).length = L.length := by simp [partE]; omega
theorem partE_zero (L : List Ent) : partE L 0 = List.replicate L.length z0E := by simp [partE]
theorem partE_all (L : List Ent) : partE L L.length = L := by simp [partE]
theorem partE_set (L : List Ent) (k : Nat) (h : k < L.length) : (partE L k).set k (gE L k) = partE L (k + 1) := by
  unfold partE
  have e : L.length - k = (L.length - (k + 1)) + 1 := by omega
  rw [e, List.replicate_succ, List.set_append_right (h := by simp; omega)]
  have e2 : k - (L.take k).length = 0 := by simp; omega
  rw [e2, List.set_cons_zero, gE_eq h, List.take_succ_eq_append_getElem h, List.append_assoc]
  rfl
end Go.Proofs.YtgjebjoaemeeoaaGreatDoor.kit
