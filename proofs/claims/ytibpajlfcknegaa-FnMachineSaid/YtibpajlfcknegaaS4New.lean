/-
  Chapter 4: what spec's and impl's NewMachine return.
-/
import Derived.Test.YtibpajlfcknegaaMach
import Derived.Handy
namespace Go.Proofs.Ytibpajlfcknegaa.kit
open Go.ChangeShapes Go.WideShapes Go.ChangeAt Go.RowKit
set_option linter.unusedVariables false

def newO : List Int := [0, 0, 0]
def newS : List Sess := []
theorem newO_len : newO.length ≤ 4194304 := by simp [newO]
theorem newS_len : newS.length ≤ 4194304 := by simp [newS]
theorem own_newS (b : Nat) (w : World) : OwnS b w (.slice none 0 0) newS := World.ownsRow_nil w b _ 4
theorem own_three (b : Nat) (w : World) (hb : b ≤ w.heap.size) : OwnI b (w.alloc (.cells #[.int .i64 0, .int .i64 0, .int .i64 0] 3)) (.slice (some ⟨w.heap.size, 0, none⟩) 3 3) newO :=
  OwnI.of (World.ownsRow_lit w #[.int .i64 0, .int .i64 0, .int .i64 0] 3 hb (by unfold maxLen; omega) rfl) rfl
theorem made3 : madeCells #[.int .i64 0] 3 = #[.int .i64 0, .int .i64 0, .int .i64 0] := by
  apply Array.ext'
  rw [toList_madeCells_one]
  rfl
set_option maxRecDepth 100000 in
theorem specNewMachine (w : World) : Calls Try.prog 70 #[] w fun e w' => ∃ v1 v2, e = .returned (.agg #[v1, v2]) ∧ OwnI w.heap.size w' v1 newO ∧ OwnS w.heap.size w' v2 newS ∧ Below w.heap.size w w' := by
  go_enter Try.func70, Try.ntmps70
  go_wp2_with fail
  refine bodyPost_ret (v := .agg #[.slice (some ⟨w.heap.size + 1, 0, none⟩) 3 3, .slice none 0 0]) (by simp [results, Try.results70, go_sem]) rfl ⟨_, _, rfl, ?_, own_newS _ _, by go_grown⟩
  have h := own_three w.heap.size (w.alloc (.cells #[.slice (some ⟨w.heap.size + 1, 0, none⟩) 3 3, .slice none 0 0] 27)) (by simp)
  simpa using h
end Go.Proofs.Ytibpajlfcknegaa.kit
