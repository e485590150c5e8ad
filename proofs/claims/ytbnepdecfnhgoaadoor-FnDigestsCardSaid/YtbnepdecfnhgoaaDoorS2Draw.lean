/-
  The draws of chapter 2: lists of at most six numbers; below the heap's old size nothing turns.
-/
import Derived.Test.YtbnepdecfnhgoaaDoorC1Draw
import Derived.Test.YtbnepdecfnhgoaaDoorInts
namespace Go.Proofs.YtbnepdecfnhgoaaDoor.kit
open Go.ChangeShapes Go.WideShapes Go.ChangeAt Go.RowKit
set_option linter.unusedVariables false
set_option linter.unusedSimpArgs false

theorem OwnI.drew {g : Nat} {w w' : World} {base : Nat} {v : Value} {l : List Int} (h : OwnI base w v l) (hd : Drew g w w') (hg : g < base) : OwnI base w' v l := own_drew h.row hd hg
theorem OwnI.source {base : Nat} {w : World} {v : Value} {l : List Int} (h : OwnI base w v l) : SrcI w.heap.size w v l := by
  rcases h.2 with ⟨rfl, h0⟩ | ⟨g, c, cur, rfl, hg, hh, hn, hm, _⟩
  · exact .inl ⟨rfl, List.eq_nil_of_length_eq_zero h0⟩
  · refine SrcI.row (Array.getElem?_eq_some_iff.1 hh).1 rfl (fun j hj => ?_)
    rw [h.row.cellAt j (by omega), List.getElem?_map, List.getElem?_eq_getElem hj]
    simp [List.getD, hj]
theorem once_any (g : Nat) (n : Int) (w : World) (hn : 1 ≤ n) (hn2 : n ≤ 256) (hc : Cur g w) :
    Calls Tryd.prog 48 #[.pointer (some ⟨g, 0, none⟩), .int .i64 n] w fun e w' => ∃ b : Bool, e = .returned (.bool b) ∧ Drew g w w' := by
  have C1 := Lib.hid (below_small g n w hn hn2 hc)
  go_enter Tryd.func48, Tryd.ntmps48
  go_wp2_with fail
  refine (C1.out).mono ?_
  rintro e w1 ⟨y, rfl, _, _, hd⟩
  go_wp2_with fail
  go_ret
  exact ⟨_, rfl, hd⟩
end Go.Proofs.YtbnepdecfnhgoaaDoor.kit
