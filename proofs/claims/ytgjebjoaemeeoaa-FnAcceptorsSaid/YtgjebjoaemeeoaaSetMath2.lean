/-
  Plain lists of ints, on: a sorted list with its runs struck is strictly ascending and has the same members; so the union, intersection and difference can be had by sorting.
-/
import Derived.Test.YtgjebjoaemeeoaaSetMath
import Derived.Lib.SlicesCompact
namespace Go.Proofs.Ytgjebjoaemeeoaa.kit
open Go.Lib
set_option linter.unusedVariables false

theorem compact_ok (d : Array Int) (hs : ∀ i j, i ≤ j → j < d.size → d[i]! ≤ d[j]!) : ∀ m, m ≤ d.size →
    Asc (compactUpTo d m) ∧ (∀ y, y ∈ compactUpTo d m ↔ ∃ j, j < m ∧ d[j]! = y) := by
  intro m
  induction m with
  | zero => intro _; exact ⟨List.Pairwise.nil, fun y => by simp [compactUpTo]⟩
  | succ m ih =>
    intro hm
    obtain ⟨h1, h2⟩ := ih (by omega)
    rw [compactUpTo_succ]
    by_cases hk : keeps d m = true
    · rw [if_pos hk]
      have hk' : m = 0 ∨ d[m]! ≠ d[m - 1]! := by simpa [keeps] using hk
      refine ⟨?_, fun y => ?_⟩
      · unfold Asc at *
        rw [List.pairwise_append]
        refine ⟨h1, by simp, fun a ha b hb => ?_⟩
        obtain ⟨j, hj, rfl⟩ := (h2 a).1 ha
        rw [List.mem_singleton] at hb
        subst hb
        rcases hk' with e | e
        · omega
        · have a1 := hs j (m - 1) (by omega) (by omega)
          have a2 := hs (m - 1) m (by omega) (by omega)
          omega
      · rw [List.mem_append, h2, List.mem_singleton]
        constructor
        · rintro (⟨j, hj, e⟩ | e)
          · exact ⟨j, by omega, e⟩
          · exact ⟨m, by omega, e.symm⟩
        · rintro ⟨j, hj, e⟩
          by_cases hjm : j = m
          · subst hjm; exact .inr e.symm
          · exact .inl ⟨j, by omega, e⟩
    · rw [if_neg hk, List.append_nil]
      have hk' : m ≠ 0 ∧ d[m]! = d[m - 1]! := by
        have : ¬ (m = 0 ∨ d[m]! ≠ d[m - 1]!) := by simpa [keeps] using hk
        exact ⟨fun e => this (.inl e), Decidable.not_not.1 fun e => this (.inr e)⟩
      refine ⟨h1, fun y => ?_⟩
      rw [h2]
      constructor
      · rintro ⟨j, hj, e⟩; exact ⟨j, by omega, e⟩
      · rintro ⟨j, hj, e⟩
        by_cases hjm : j = m
        · subst hjm; exact ⟨j - 1, by omega, by rw [← hk'.2]; exact e⟩
        · exact ⟨j, by omega, e⟩
/-- a list in strictly ascending order -/
def sorted (l : List Int) : List Int := l.mergeSort fun x y => decide (x ≤ y)
def ascending (l : List Int) : List Int := compact (sorted l)
theorem sorted_length (l : List Int) : (sorted l).length = l.length := List.length_mergeSort l
theorem sorted_pair (l : List Int) : (sorted l).Pairwise (· ≤ ·) := by
  have h := List.pairwise_mergeSort (le := fun x y : Int => decide (x ≤ y)) (by intro a b c; simp; omega) (by intro a b; simp; omega) l
  exact h.imp (fun h => by simpa using h)
theorem sorted_mem (l : List Int) (y : Int) : y ∈ sorted l ↔ y ∈ l := List.mem_mergeSort
theorem ascending_ok (l : List Int) : Asc (ascending l) ∧ ∀ y, y ∈ ascending l ↔ y ∈ l := by
  have hp := sorted_pair l
  have h := compact_ok (sorted l).toArray (fun i j hij hj => by
    have hj' : j < (sorted l).length := by simpa using hj
    by_cases e : i = j
    · subst e; exact Int.le_refl _
    · have h := List.pairwise_iff_getElem.1 hp i j (by omega) hj' (by omega)
      simpa [getElem!_pos, show i < (sorted l).length by omega, hj'] using h) (sorted l).length (by simp)
  refine ⟨h.1, fun y => ?_⟩
  rw [← sorted_mem l y]
  show y ∈ compactUpTo (sorted l).toArray (sorted l).length ↔ _
  rw [h.2, List.mem_iff_getElem]
  constructor
  · rintro ⟨j, hj, e⟩; exact ⟨j, hj, by simpa [getElem!_pos, hj] using e⟩
  · rintro ⟨j, hj, e⟩; exact ⟨j, hj, by simpa [getElem!_pos, hj] using e⟩
theorem ascending_len (l : List Int) : (ascending l).length ≤ l.length := by
  have h : (compactUpTo (sorted l).toArray (sorted l).length).length ≤ (sorted l).length := by
    unfold compactUpTo
    rw [List.length_map]
    have := List.length_filter_le (keeps (sorted l).toArray) (List.range (sorted l).length)
    simpa using this
  calc (ascending l).length ≤ (sorted l).length := h
    _ = l.length := sorted_length l
theorem ascending_le (l : List Int) : (ascending l).Pairwise (· ≤ ·) := (ascending_ok l).1.imp (fun h => by omega)
theorem ascending_nil : ascending [] = [] := by
  have := ascending_len []
  exact List.eq_nil_of_length_eq_zero (by simpa using this)
/-- what the program's sets are made by: the numbers of both lists in order, of which those with a wanted presence stay -/
def withP (a b : List Int) (p : Bool → Bool → Bool) : List Int := (ascending (ascending a ++ ascending b)).filter fun x => p (decide (x ∈ ascending a)) (decide (x ∈ ascending b))
theorem withP_asc (a b : List Int) (p : Bool → Bool → Bool) : Asc (withP a b p) := by
  have h := (ascending_ok (ascending a ++ ascending b)).1
  unfold Asc at *
  exact h.filter _
theorem withP_mem (a b : List Int) (p : Bool → Bool → Bool) (x : Int) : x ∈ withP a b p ↔ (x ∈ a ∨ x ∈ b) ∧ p (decide (x ∈ a)) (decide (x ∈ b)) = true := by
  unfold withP
  have ea : decide (x ∈ ascending a) = decide (x ∈ a) := decide_eq_decide.2 ((ascending_ok a).2 x)
  have eb : decide (x ∈ ascending b) = decide (x ∈ b) := decide_eq_decide.2 ((ascending_ok b).2 x)
  rw [List.mem_filter, (ascending_ok _).2, List.mem_append, ea, eb, (ascending_ok a).2, (ascending_ok b).2]
theorem unite_eq (a b : List Int) (p : Bool → Bool → Bool) (h : p true false = true ∧ p false true = true ∧ p true true = true) : withP a b p = unite a b := by
  refine asc_ext (withP_asc a b p) (unite_asc a b) (fun x => ?_)
  rw [withP_mem, unite_mem]
  by_cases h1 : x ∈ a <;> by_cases h2 : x ∈ b <;> simp [h1, h2, h]
theorem common_eq (a b : List Int) (p : Bool → Bool → Bool) (h : p true false = false ∧ p false true = false ∧ p true true = true) : withP a b p = common a b := by
  refine asc_ext (withP_asc a b p) (common_asc a b) (fun x => ?_)
  rw [withP_mem, common_mem]
  by_cases h1 : x ∈ a <;> by_cases h2 : x ∈ b <;> simp [h1, h2, h]
theorem without_eq (a b : List Int) (p : Bool → Bool → Bool) (h : p true false = true ∧ p false true = false ∧ p true true = false) : withP a b p = without a b := by
  refine asc_ext (withP_asc a b p) (without_asc a b) (fun x => ?_)
  rw [withP_mem, without_mem]
  by_cases h1 : x ∈ a <;> by_cases h2 : x ∈ b <;> simp [h1, h2, h]
end Go.Proofs.Ytgjebjoaemeeoaa.kit
