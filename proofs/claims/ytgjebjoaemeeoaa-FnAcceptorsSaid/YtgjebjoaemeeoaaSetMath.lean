/-
  Plain lists of ints: putting a number into a list in order; the union, intersection and difference that come of it; two strictly ascending lists with the same members are one.
-/
import Derived.Test.YtgjebjoaemeeoaaRows
namespace Go.Proofs.Ytgjebjoaemeeoaa.kit
set_option linter.unusedVariables false

/-- the number of leading members below x -/
def low (l : List Int) (x : Int) : Nat := (l.takeWhile (fun y => decide (y < x))).length
/-- l with x put in ahead of the first member that is not below it; l itself if that member is x -/
def put (l : List Int) (x : Int) : List Int := if (low l x < l.length ∧ l.getD (low l x) 0 = x) then l else l.take (low l x) ++ x :: l.drop (low l x)
def puts (l xs : List Int) : List Int := xs.foldl put l
def Asc (l : List Int) : Prop := l.Pairwise (· < ·)

theorem low_le (l : List Int) (x : Int) : low l x ≤ l.length := by
  unfold low
  exact (List.takeWhile_sublist _).length_le
theorem low_eq {l : List Int} {x : Int} {k : Nat} (hk : k ≤ l.length) (h1 : ∀ j, j < k → l.getD j 0 < x) (h2 : k < l.length → ¬ l.getD k 0 < x) : low l x = k := by
  unfold low
  induction l generalizing k with
  | nil => simp at hk; simp [hk]
  | cons a l ih =>
    cases k with
    | zero =>
      have h := h2 (by simp)
      have h' : ¬ a < x := by simpa using h
      simp [h']
    | succ k =>
      have h := h1 0 (by omega)
      have h' : a < x := by simpa using h
      rw [List.takeWhile_cons, if_pos (by simpa using h'), List.length_cons]
      congr 1
      refine ih (by simpa using hk) (fun j hj => ?_) (fun hlt => ?_)
      · have := h1 (j + 1) (by omega); simpa using this
      · have := h2 (by simpa using hlt); simpa using this
theorem put_length (l : List Int) (x : Int) : (put l x).length ≤ l.length + 1 := by
  unfold put
  have := low_le l x
  split
  · omega
  · simp; omega
theorem puts_length (xs l : List Int) : (puts l xs).length ≤ l.length + xs.length := by
  induction xs generalizing l with
  | nil => simp [puts]
  | cons x xs ih =>
    have h1 := ih (put l x)
    have h2 := put_length l x
    show (puts (put l x) xs).length ≤ _
    simp; omega
theorem puts_snoc (l xs : List Int) (x : Int) : puts l (xs ++ [x]) = put (puts l xs) x := by simp [puts]
/-- put, on a list's head -/
theorem put_nil (x : Int) : put [] x = [x] := by simp [put, low]
theorem low_cons (a : Int) (l : List Int) (x : Int) : low (a :: l) x = if a < x then low l x + 1 else 0 := by
  unfold low
  rw [List.takeWhile_cons]
  by_cases h : a < x
  · simp [h]
  · simp [h]
theorem put_cons (a : Int) (l : List Int) (x : Int) : put (a :: l) x = if a < x then a :: put l x else if a = x then a :: l else x :: a :: l := by
  unfold put
  rw [low_cons]
  by_cases h : a < x
  · rw [if_pos h, if_pos h]
    by_cases h2 : low l x < l.length ∧ l.getD (low l x) 0 = x
    · rw [if_pos h2, if_pos (by simpa using h2)]
    · rw [if_neg h2, if_neg (by simpa using h2)]
      simp
  · rw [if_neg h, if_neg h]
    by_cases h2 : a = x
    · rw [if_pos h2, if_pos (by simpa using h2)]
    · rw [if_neg h2, if_neg (by simpa using h2)]
      simp
theorem put_mem (l : List Int) (x y : Int) : y ∈ put l x ↔ y = x ∨ y ∈ l := by
  induction l with
  | nil => simp [put_nil]
  | cons a l ih =>
    rw [put_cons]
    by_cases h : a < x
    · rw [if_pos h, List.mem_cons, ih, List.mem_cons]
      exact ⟨fun h => by rcases h with h | h | h <;> simp [h], fun h => by rcases h with h | h | h <;> simp [h]⟩
    · rw [if_neg h]
      by_cases h2 : a = x
      · rw [if_pos h2]; subst h2; simp
      · rw [if_neg h2]; simp
theorem put_asc {l : List Int} (x : Int) (h : Asc l) : Asc (put l x) := by
  unfold Asc at *
  induction l with
  | nil => rw [put_nil]; simp
  | cons a l ih =>
    rw [List.pairwise_cons] at h
    rw [put_cons]
    by_cases h1 : a < x
    · rw [if_pos h1, List.pairwise_cons]
      refine ⟨fun y hy => ?_, ih h.2⟩
      rcases (put_mem l x y).1 hy with e | e
      · omega
      · exact h.1 y e
    · rw [if_neg h1]
      by_cases h2 : a = x
      · rw [if_pos h2, List.pairwise_cons]; exact h
      · rw [if_neg h2, List.pairwise_cons, List.pairwise_cons]
        refine ⟨fun y hy => ?_, h⟩
        rcases List.mem_cons.1 hy with e | e
        · omega
        · have := h.1 y e; omega
theorem puts_asc (xs : List Int) {l : List Int} (h : Asc l) : Asc (puts l xs) := by
  induction xs generalizing l with
  | nil => exact h
  | cons x xs ih => exact ih (put_asc x h)
theorem puts_mem (xs l : List Int) (y : Int) : y ∈ puts l xs ↔ y ∈ xs ∨ y ∈ l := by
  induction xs generalizing l with
  | nil => simp [puts]
  | cons x xs ih =>
    show y ∈ puts (put l x) xs ↔ _
    rw [ih, put_mem, List.mem_cons]
    exact ⟨fun h => by rcases h with h | h | h <;> simp [h], fun h => by rcases h with (h | h) | h <;> simp [h]⟩
theorem asc_ext {a b : List Int} (ha : Asc a) (hb : Asc b) (h : ∀ x, x ∈ a ↔ x ∈ b) : a = b := by
  unfold Asc at *
  induction a generalizing b with
  | nil =>
    cases b with
    | nil => rfl
    | cons y b => have := (h y).2 (by simp); simp at this
  | cons x a ih =>
    cases b with
    | nil => have := (h x).1 (by simp); simp at this
    | cons y b =>
      rw [List.pairwise_cons] at ha hb
      have hxy : x = y := by
        have h1 := (h x).1 (by simp)
        have h2 := (h y).2 (by simp)
        rcases List.mem_cons.1 h1 with e | e
        · exact e
        · rcases List.mem_cons.1 h2 with e2 | e2
          · exact e2.symm
          · have := hb.1 x e; have := ha.1 y e2; omega
      subst hxy
      congr 1
      refine ih ha.2 hb.2 (fun z => ?_)
      constructor
      · intro hz
        rcases List.mem_cons.1 ((h z).1 (List.mem_cons_of_mem _ hz)) with e | e
        · have := ha.1 z hz; omega
        · exact e
      · intro hz
        rcases List.mem_cons.1 ((h z).2 (List.mem_cons_of_mem _ hz)) with e | e
        · have := hb.1 z hz; omega
        · exact e
def unite (a b : List Int) : List Int := puts (puts [] a) b
def common (a b : List Int) : List Int := puts [] (a.filter fun x => decide (x ∈ b))
def without (a b : List Int) : List Int := puts [] (a.filter fun x => decide (x ∉ b))
theorem asc_nil : Asc [] := List.Pairwise.nil
theorem unite_mem (a b : List Int) (x : Int) : x ∈ unite a b ↔ x ∈ a ∨ x ∈ b := by
  rw [unite, puts_mem, puts_mem]; simp [or_comm]
theorem common_mem (a b : List Int) (x : Int) : x ∈ common a b ↔ x ∈ a ∧ x ∈ b := by
  rw [common, puts_mem]; simp
theorem without_mem (a b : List Int) (x : Int) : x ∈ without a b ↔ x ∈ a ∧ x ∉ b := by
  rw [without, puts_mem]; simp
theorem unite_asc (a b : List Int) : Asc (unite a b) := puts_asc _ (puts_asc _ asc_nil)
theorem common_asc (a b : List Int) : Asc (common a b) := puts_asc _ asc_nil
theorem without_asc (a b : List Int) : Asc (without a b) := puts_asc _ asc_nil
theorem unite_len (a b : List Int) (ha : a.length ≤ 1048576) (hb : b.length ≤ 1048576) : (unite a b).length ≤ 4194304 := by
  have h1 := puts_length b (puts [] a)
  have h2 := puts_length a []
  unfold unite
  rw [List.length_nil] at h2; omega
theorem common_len (a b : List Int) (ha : a.length ≤ 1048576) (hb : b.length ≤ 1048576) : (common a b).length ≤ 4194304 := by
  have h1 := puts_length (a.filter fun x => decide (x ∈ b)) []
  have h2 := List.length_filter_le (fun x => decide (x ∈ b)) a
  unfold common
  rw [List.length_nil] at h1; omega
theorem without_len (a b : List Int) (ha : a.length ≤ 1048576) (hb : b.length ≤ 1048576) : (without a b).length ≤ 4194304 := by
  have h1 := puts_length (a.filter fun x => decide (x ∉ b)) []
  have h2 := List.length_filter_le (fun x => decide (x ∉ b)) a
  unfold without
  rw [List.length_nil] at h1; omega
end Go.Proofs.Ytgjebjoaemeeoaa.kit
