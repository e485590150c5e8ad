/-
  Chapter 4: a valid operation's numbers; a valid machine's sessions are few.
-/
import Derived.Test.YtpdpejlcilnafaaGreatDoorS4Tab
namespace Go.Proofs.YtpdpejlcilnafaaGreatDoor.kit
open Go.ChangeShapes Go.WideShapes Go.ChangeAt Go.RowKit Go.Maps
set_option linter.unusedVariables false

theorem okOp_parts {c s k o d v : Int} (h : okOp c s k o d v = true) : (0 ≤ c ∧ c ≤ 2) ∧ (0 ≤ o ∧ o ≤ 2) ∧ (k = 1 ∨ k = 2) := by
  unfold okOp okC okS okV at h
  simp only [Bool.and_eq_true, Bool.or_eq_true, decide_eq_true_eq, beq_iff_eq] at h
  refine ⟨by omega, by omega, by omega⟩
theorem small_wf {c : Int} (h0 : 0 ≤ c) (h1 : c ≤ 2) : (Lit.int .i64 c).wf = true := by
  obtain ⟨n, rfl⟩ := Int.eq_ofNat_of_zero_le h0
  have : n = 0 ∨ n = 1 ∨ n = 2 := by omega
  rcases this with rfl | rfl | rfl <;> rfl
theorem sess_short {L2 : List Sess} (h : ∀ j, j < L2.length → sessAsc L2 j) : L2.length ≤ 3 ∧ wfC L2 := by
  have hr : ∀ j, j < L2.length → 0 ≤ (sg L2 j).1 ∧ (sg L2 j).1 ≤ 2 := fun j hj => by
    have h1 := (h j hj).1
    unfold sessOk okC at h1
    simp only [Bool.and_eq_true, decide_eq_true_eq] at h1
    exact h1.1
  have hs : ∀ j, j < L2.length → (j : Int) ≤ (sg L2 j).1 := by
    intro j
    induction j with
    | zero => intro hj; exact (hr 0 hj).1
    | succ j ih =>
      intro hj
      have h1 := (h (j + 1) hj).2 (by omega)
      rw [Nat.add_sub_cancel] at h1
      have := ih (by omega)
      omega
  refine ⟨?_, fun j hj => ?_⟩
  · by_cases h0 : L2.length ≤ 3
    · exact h0
    · have a := hs 3 (by omega)
      have b := hr 3 (by omega)
      omega
  · have := hr j hj
    exact small_wf (by omega) (by omega)
end Go.Proofs.YtpdpejlcilnafaaGreatDoor.kit
