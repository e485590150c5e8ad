/-
  Chapter 3, operations: what impl's IsValidOp returns, for every six ints; the kinds behind an interface.
-/
import Derived.Test.YtibpajlfcknegaaDoorS3Plain
namespace Go.Proofs.YtibpajlfcknegaaDoor.kit
open Go.ChangeShapes Go.WideShapes Go.ChangeAt Go.RowKit
set_option linter.unusedVariables false

theorem isClient_c (x : Int) (w : World) : Calls Tryd.prog 72 #[.int .i64 x] w fun e w' => e = .returned (.bool (okC x)) ∧ w = w' := by
  unfold okC
  by_cases h1 : 0 ≤ x
  · by_cases h2 : x < 3
    · rw [decide_eq_true (by omega : 0 ≤ x ∧ x ≤ 2)]
      have f1 : decide (0 ≤ x) = true := decide_eq_true h1
      have f2 : decide (x < 3) = true := decide_eq_true h2
      clear h1 h2
      go_enter Tryd.func72, Tryd.ntmps72
      go_wp2_with fail
      go_returns
      exact ⟨rfl, rfl⟩
    · rw [decide_eq_false (by omega : ¬ (0 ≤ x ∧ x ≤ 2))]
      have f1 : decide (0 ≤ x) = true := decide_eq_true h1
      have f2 : decide (x < 3) = false := decide_eq_false h2
      clear h1 h2
      go_enter Tryd.func72, Tryd.ntmps72
      go_wp2_with fail
      go_returns
      exact ⟨rfl, rfl⟩
  · rw [decide_eq_false (by omega : ¬ (0 ≤ x ∧ x ≤ 2))]
    have f1 : decide (0 ≤ x) = false := decide_eq_false h1
    clear h1
    go_enter Tryd.func72, Tryd.ntmps72
    go_wp2_with fail
    go_returns
    exact ⟨rfl, rfl⟩
theorem isSeq_c (x : Int) (w : World) : Calls Tryd.prog 73 #[.int .i64 x] w fun e w' => e = .returned (.bool (okS x)) ∧ w = w' := by
  unfold okS
  by_cases h1 : 1 ≤ x
  · by_cases h2 : x ≤ 99
    · rw [decide_eq_true (by omega : 1 ≤ x ∧ x ≤ 99)]
      have f1 : decide (1 ≤ x) = true := decide_eq_true h1
      have f2 : decide (x ≤ 99) = true := decide_eq_true h2
      clear h1 h2
      go_enter Tryd.func73, Tryd.ntmps73
      go_wp2_with fail
      go_returns
      exact ⟨rfl, rfl⟩
    · rw [decide_eq_false (by omega : ¬ (1 ≤ x ∧ x ≤ 99))]
      have f1 : decide (1 ≤ x) = true := decide_eq_true h1
      have f2 : decide (x ≤ 99) = false := decide_eq_false h2
      clear h1 h2
      go_enter Tryd.func73, Tryd.ntmps73
      go_wp2_with fail
      go_returns
      exact ⟨rfl, rfl⟩
  · rw [decide_eq_false (by omega : ¬ (1 ≤ x ∧ x ≤ 99))]
    have f1 : decide (1 ≤ x) = false := decide_eq_false h1
    clear h1
    go_enter Tryd.func73, Tryd.ntmps73
    go_wp2_with fail
    go_returns
    exact ⟨rfl, rfl⟩
theorem isValue_c (x : Int) (w : World) : Calls Tryd.prog 51 #[.int .i64 x] w fun e w' => e = .returned (.bool (okV x)) ∧ w = w' := by
  unfold okV
  by_cases h1 : 0 ≤ x
  · by_cases h2 : x ≤ 9
    · rw [decide_eq_true (by omega : 0 ≤ x ∧ x ≤ 9)]
      have f1 : decide (0 ≤ x) = true := decide_eq_true h1
      have f2 : decide (x ≤ 9) = true := decide_eq_true h2
      clear h1 h2
      go_enter Tryd.func51, Tryd.ntmps51
      go_wp2_with fail
      go_returns
      exact ⟨rfl, rfl⟩
    · rw [decide_eq_false (by omega : ¬ (0 ≤ x ∧ x ≤ 9))]
      have f1 : decide (0 ≤ x) = true := decide_eq_true h1
      have f2 : decide (x ≤ 9) = false := decide_eq_false h2
      clear h1 h2
      go_enter Tryd.func51, Tryd.ntmps51
      go_wp2_with fail
      go_returns
      exact ⟨rfl, rfl⟩
  · rw [decide_eq_false (by omega : ¬ (0 ≤ x ∧ x ≤ 9))]
    have f1 : decide (0 ≤ x) = false := decide_eq_false h1
    clear h1
    go_enter Tryd.func51, Tryd.ntmps51
    go_wp2_with fail
    go_returns
    exact ⟨rfl, rfl⟩

end Go.Proofs.YtibpajlfcknegaaDoor.kit
