/-
  Chapter 3: a text cut at every occurrence of a byte (l2Cut), a number from 0 up (l3Num); slices of strings of the call's own.
-/
import Derived.Test.YtgjebjoaemeeoaaGreatDoorCuts
import Derived.IntWalk
import Derived.Lib.IndexBytes
namespace Go.Proofs.YtgjebjoaemeeoaaGreatDoor.kit
open Go.ChangeShapes Go.WideShapes Go.ChangeAt Go.RowKit
set_option linter.unusedVariables false

theorem size_mk (l : List UInt8) : (⟨l.toArray⟩ : ByteArray).size = l.length := by simp [ByteArray.size]
/-- strings as cells -/
abbrev strs (ps : List (List UInt8)) : List Value := ps.map fun p => str p
theorem infoS : (Tryz.prog.info? 9).map (fun i => (i.zero, i.size, i.bytes)) = some (some (.string ByteArray.empty), 1, 16) := by kernel_rfl
theorem ext_str (s : ByteArray) (a b : Nat) : Value.string (s.extract a b) = str ((s.data.toList.drop a).take (b - a)) := by
  unfold str
  congr 1
  apply ByteArray.ext
  apply Array.ext'
  rw [Lib.extract_data]
/-- what a row of strings says of its cells -/
theorem strs_there {base : Nat} {w : World} {v : Value} {ps : List (List UInt8)} (h : w.ownsRow base 9 1 v ps.length (strs ps)) (h0 : 0 < ps.length) :
    ∃ g cap, v = .slice (some ⟨g, 0, none⟩) ps.length cap ∧ ps.length ≤ cap ∧ cap ≤ maxLen ∧ base ≤ g ∧ g < w.heap.size ∧ ∀ j, j < ps.length → w.cell? ⟨g, j, none⟩ = some (str (ps.getD j [])) := by
  rcases h.2 with ⟨rfl, h1⟩ | ⟨g, c, cur, rfl, hg, hh, hn, hm, _⟩
  · omega
  · refine ⟨g, c, rfl, hn, hm, hg, (Array.getElem?_eq_some_iff.1 hh).1, fun j hj => ?_⟩
    rw [h.cellAt j (by omega)]
    simp [strs, List.getD, hj]


end Go.Proofs.YtgjebjoaemeeoaaGreatDoor.kit
