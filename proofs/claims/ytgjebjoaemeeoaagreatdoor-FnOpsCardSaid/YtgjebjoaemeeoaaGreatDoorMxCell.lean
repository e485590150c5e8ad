/-
  The library's variable MaxLen, as the contracts of strings.Cut and strings.SplitN ask for it; the cells of short rows of ints; where a byte stands last.
-/
import Derived.Test.YtgjebjoaemeeoaaGreatDoorInts
import Derived.Test.YtgjebjoaemeeoaaGreatDoorShelf
import Derived.Lib.LastIndexByte
namespace Go.Proofs.YtgjebjoaemeeoaaGreatDoor.kit
open Go.ChangeShapes Go.WideShapes Go.ChangeAt Go.RowKit
set_option linter.unusedVariables false

theorem OwnI.cellsAt {b : Nat} {w : World} {v : Value} {l : List Int} (h : OwnI b w v l) (h0 : 0 < l.length) : ∃ g c, v = .slice (some ⟨g, 0, none⟩) l.length c ∧ l.length ≤ c ∧ c ≤ maxLen ∧ g < w.heap.size ∧ ∀ j, j < l.length → w.cell? ⟨g, j, none⟩ = some (.int .i64 (l.getD j 0)) := by
  obtain ⟨g, c, rfl, h1, h2, _, h3⟩ := h.there h0
  refine ⟨g, c, rfl, h1, h2, h3, fun j hj => ?_⟩
  have := h.row.cellAt j (by omega)
  rw [this]
  simp [List.getD, hj]
theorem OwnI.two {b : Nat} {w : World} {v : Value} {x y : Int} (h : OwnI b w v [x, y]) : ∃ g c, v = .slice (some ⟨g, 0, none⟩) 2 c ∧ 2 ≤ c ∧ c ≤ maxLen ∧ g < w.heap.size ∧ w.cell? ⟨g, 0, none⟩ = some (.int .i64 x) ∧ w.cell? ⟨g, 1, none⟩ = some (.int .i64 y) := by
  obtain ⟨g, c, h1, h2, h3, h4, h5⟩ := h.cellsAt (by simp)
  exact ⟨g, c, h1, h2, h3, h4, h5 0 (by simp), h5 1 (by simp)⟩
theorem OwnI.three {b : Nat} {w : World} {v : Value} {x z y : Int} (h : OwnI b w v [x, z, y]) : ∃ g c, v = .slice (some ⟨g, 0, none⟩) 3 c ∧ 3 ≤ c ∧ c ≤ maxLen ∧ g < w.heap.size ∧ w.cell? ⟨g, 0, none⟩ = some (.int .i64 x) ∧ w.cell? ⟨g, 1, none⟩ = some (.int .i64 z) ∧ w.cell? ⟨g, 2, none⟩ = some (.int .i64 y) := by
  obtain ⟨g, c, h1, h2, h3, h4, h5⟩ := h.cellsAt (by simp)
  exact ⟨g, c, h1, h2, h3, h4, h5 0 (by simp), h5 1 (by simp), h5 2 (by simp)⟩
/-- the library's variable MaxLen holds some int -/
def Mx (w : World) : Prop := ∃ m, w.cell? ⟨0, 0, none⟩ = some (.int .i64 m)
theorem Mx.below {w w' : World} (h : Mx w) (hb : Below w.heap.size w w') : Mx w' := by
  obtain ⟨m, hm⟩ := h
  exact ⟨m, (hb.cell (p := ⟨0, 0, none⟩) (World.block_lt_of_cell? w _ hm)).trans hm⟩
theorem mx_of_shape {W : World} (h : W.ShapedOpen Tryz.prog) : Mx W := Go.Proofs.cell_of_shapedOpen_int (zero := #[.int .i64 0]) (t := 3) h (of_decide_eq_true (by kernel_rfl)) (by kernel_rfl) rfl (by kernel_rfl) (by kernel_rfl) Tryz.underlying3
end Go.Proofs.YtgjebjoaemeeoaaGreatDoor.kit
