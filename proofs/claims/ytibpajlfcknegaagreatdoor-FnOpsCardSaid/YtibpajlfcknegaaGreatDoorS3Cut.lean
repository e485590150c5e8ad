/-
  Chapter 3: a text cut at every occurrence of a byte (l2Cut), a number from 0 up (l3Num); slices of strings of the call's own.
-/
import Derived.Test.YtibpajlfcknegaaGreatDoorCuts
import Derived.IntWalk
import Derived.Lib.IndexBytes
namespace Go.Proofs.YtibpajlfcknegaaGreatDoor.kit
open Go.ChangeShapes Go.WideShapes Go.ChangeAt Go.RowKit
set_option linter.unusedVariables false

theorem size_mk (l : List UInt8) : (⟨l.toArray⟩ : ByteArray).size = l.length := by simp [ByteArray.size]
/-- strings as cells -/
abbrev strs (ps : List (List UInt8)) : List Value := ps.map fun p => str p
theorem infoS : (Tryz.prog.info? 9).map (fun i => (i.zero, i.size, i.bytes)) = some (some (.string ByteArray.empty), 1, 16) := by kernel_rfl
theorem ext_str (s : ByteArray) (a b : Nat) : Value.string (s.extract a b) = str ((s.data.toList.drop a).take (b - a)) := by
  unfold str
  congr 1
  apply ByteArray.ext
  apply Array.ext'
  rw [Lib.extract_data]
/-- what a row of strings says of its cells -/
theorem strs_there {base : Nat} {w : World} {v : Value} {ps : List (List UInt8)} (h : w.ownsRow base 9 1 v ps.length (strs ps)) (h0 : 0 < ps.length) :
    ∃ g cap, v = .slice (some ⟨g, 0, none⟩) ps.length cap ∧ ps.length ≤ cap ∧ cap ≤ maxLen ∧ base ≤ g ∧ g < w.heap.size ∧ ∀ j, j < ps.length → w.cell? ⟨g, j, none⟩ = some (str (ps.getD j [])) := by
  rcases h.2 with ⟨rfl, h1⟩ | ⟨g, c, cur, rfl, hg, hh, hn, hm, _⟩
  · omega
  · refine ⟨g, c, rfl, hn, hm, hg, (Array.getElem?_eq_some_iff.1 hh).1, fun j hj => ?_⟩
    rw [h.cellAt j (by omega)]
    simp [strs, List.getD, hj]


set_option maxRecDepth 100000 in
theorem numFrom (s : ByteArray) (w : World) (hs : s.size ≤ 1048576) :
    Calls Tryz.prog 143 #[.string s] w fun e w' => e = .returned (.int .i64 (numL s.data.toList)) ∧ Below w.heap.size w w' := by
  have C1 := Lib.hid (specParseInt s w hs)
  by_cases h1 : parOk s.data.toList = true
  · by_cases h2 : 0 ≤ parN s.data.toList
    · have HE := Lib.hid (show numL s.data.toList = parN s.data.toList by unfold numL; rw [h1, decide_eq_true h2]; rfl)
      rw [h1] at C1
      generalize parN s.data.toList = n at *
      have g1 : decide (n < 0) = false := by simp; omega
      clear h1
      go_enter Tryz.func143, Tryz.ntmps143
      go_wp2_with (go_at_call 171; refine (C1.out).mono ?_; rintro e w1 ⟨rfl, hb⟩)
      go_ret
      exact ⟨by rw [HE.out]; rfl, hb⟩
    · have HE := Lib.hid (show numL s.data.toList = -1 by unfold numL; rw [h1, decide_eq_false h2]; rfl)
      rw [h1] at C1
      generalize parN s.data.toList = n at *
      have g1 : decide (n < 0) = true := by simp; omega
      clear h1
      go_enter Tryz.func143, Tryz.ntmps143
      go_wp2_with (go_at_call 171; refine (C1.out).mono ?_; rintro e w1 ⟨rfl, hb⟩)
      go_ret
      exact ⟨by rw [HE.out]; rfl, hb⟩
  · have h1 : parOk s.data.toList = false := by simpa using h1
    have HE := Lib.hid (show numL s.data.toList = -1 by unfold numL; rw [h1]; rfl)
    rw [h1] at C1
    generalize parN s.data.toList = n at *
    clear h1
    go_enter Tryz.func143, Tryz.ntmps143
    go_wp2_with (go_at_call 171; refine (C1.out).mono ?_; rintro e w1 ⟨rfl, hb⟩)
    go_ret
    exact ⟨by rw [HE.out]; rfl, hb⟩
end Go.Proofs.YtibpajlfcknegaaGreatDoor.kit
