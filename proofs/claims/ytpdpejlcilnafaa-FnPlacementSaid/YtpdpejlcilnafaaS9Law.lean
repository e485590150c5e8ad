/-
  Chapter 9: what the law of placement asks of a plan.
-/
import Derived.Test.YtpdpejlcilnafaaS9Math
namespace Go.Proofs.Ytpdpejlcilnafaa.kit
open Go.ChangeShapes Go.WideShapes Go.ChangeAt Go.RowKit
set_option linter.unusedVariables false

theorem addP_mem (L : List Pla) (dead : List Int) (n : Nat) : ∀ (p : List Int) (x : Int), x ∈ addP L dead n p → x ∈ p ∨ (roomP L x = true ∧ x ∉ dead ∧ 0 ≤ x ∧ x < 5) := by
  induction n with
  | zero => intro p x h; exact .inl h
  | succ n ih =>
    intro p x h
    unfold addP at h
    split at h
    · exact .inl h
    · rename_i hs
      rcases ih _ _ h with h1 | h1
      · rw [put_mem] at h1
        rcases h1 with h1 | h1
        · have h2 := spareP_free hs
          have h3 := free_parts h2.1
          rw [← h1] at h2 h3
          exact .inr ⟨h3.1, h3.2.2, h2.2⟩
        · exact .inl h1
      · exact .inr h1
theorem addP_keep (L : List Pla) (dead : List Int) (n : Nat) : ∀ (p : List Int) (x : Int), x ∈ p → x ∈ addP L dead n p := by
  induction n with
  | zero => intro p x h; exact h
  | succ n ih =>
    intro p x h
    unfold addP
    split
    · exact h
    · exact ih _ _ ((put_mem _ _ _).2 (.inr h))
theorem addP_asc (L : List Pla) (dead : List Int) (n : Nat) : ∀ p : List Int, Asc p → Asc (addP L dead n p) := by
  induction n with
  | zero => intro p h; exact h
  | succ n ih =>
    intro p h
    unfold addP
    split
    · exact h
    · exact ih _ (put_asc _ h)
theorem out_in {al : List Int} {x : Int} (h0 : 0 ≤ x) (h5 : x < 5) (h : x ∉ outP al 5) : x ∈ al := by
  by_cases hx : x ∈ al
  · exact hx
  · exfalso
    apply h
    unfold outP
    rw [List.mem_filter]
    exact ⟨List.mem_map.2 ⟨x.toNat, List.mem_range.2 (by omega), by omega⟩, by simpa using hx⟩
theorem plan_keep {L : List Pla} {m al : List Int} {want : Int} (h : planOk L m al want = true) : common (planP L m al want) (common m al) = common m al := by
  refine asc_ext (common_asc _ _) (common_asc _ _) (fun x => ?_)
  rw [common_mem]
  constructor
  · exact fun hx => hx.2
  · intro hx
    refine ⟨?_, hx⟩
    unfold planP
    rw [if_pos h]
    exact addP_keep _ _ _ _ _ hx
theorem plan_max {L : List Pla} {m al : List Int} {want : Int} (h : planOk L m al want = true) : ((planP L m al want).length : Int) ≤ want ∨ (planP L m al want).length ≤ (common m al).length := by
  unfold planP
  rw [if_pos h]
  have := addP_len L (outP al 5) (want.toNat - (common m al).length) (common m al)
  unfold fromP
  omega
theorem plan_added {L : List Pla} {m al : List Int} {want : Int} (h : planOk L m al want = true) {x : Int} (hx : x ∈ without (planP L m al want) (common m al)) : roomP L x = true ∧ x ∈ al := by
  rw [without_mem] at hx
  have h1 := hx.1
  unfold planP at h1
  rw [if_pos h] at h1
  rcases addP_mem _ _ _ _ _ h1 with h2 | ⟨h2, h3, h4, h5⟩
  · exact absurd h2 hx.2
  · exact ⟨h2, out_in h4 h5 h3⟩
theorem without_lenB (a b : List Int) (n : Nat) (h : a.length ≤ n) : (without a b).length ≤ n := by
  unfold without
  have h1 := puts_length (a.filter fun x => decide (x ∉ b)) []
  have h2 := List.length_filter_le (fun x => decide (x ∉ b)) a
  rw [List.length_nil] at h1
  omega
theorem common_lenB (a b : List Int) (n : Nat) (h : a.length ≤ n) : (common a b).length ≤ n := by
  unfold common
  have h1 := puts_length (a.filter fun x => decide (x ∈ b)) []
  have h2 := List.length_filter_le (fun x => decide (x ∈ b)) a
  rw [List.length_nil] at h1
  omega
theorem getD_in {l : List Int} {k : Nat} (h : k < l.length) : l.getD k 0 ∈ l := by simp [List.getD, h]
theorem spare_law {L : List Pla} {m a : List Int} (h : ¬ spareP L m a < 0) : roomP L (spareP L m a) = true ∧ decide (spareP L m a ∈ m) = false ∧ decide (spareP L m a ∈ a) = false := by
  have h1 := free_parts (spareP_free h).1
  exact ⟨h1.1, decide_eq_false h1.2.1, decide_eq_false h1.2.2⟩
end Go.Proofs.Ytpdpejlcilnafaa.kit
