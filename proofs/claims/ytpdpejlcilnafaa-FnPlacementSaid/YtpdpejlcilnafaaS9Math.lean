/-
  Chapter 9, placement: what the functions return, as plain functions of lists, and that the least spare by the program's order is the specification's.
-/
import Derived.Test.YtpdpejlcilnafaaPlas
import Derived.Test.YtpdpejlcilnafaaSetMath
import Derived.Test.YtpdpejlcilnafaaS2Plain
namespace Go.Proofs.Ytpdpejlcilnafaa.kit
open Go.ChangeShapes Go.WideShapes Go.ChangeAt Go.RowKit
set_option linter.unusedVariables false

theorem IsRow.listM {w : World} {a : Option Addr} {len cap : Nat} {zs : List Int} (h : IsRow .i64 w a len cap zs) : ∃ L : List Int, len = L.length ∧ At w a L ∧ L.length ≤ maxLen := by
  obtain ⟨L, hl, ha⟩ := h.list
  refine ⟨L, hl, ha, ?_⟩
  rw [← hl]
  rcases h with ⟨_, h, _⟩ | ⟨_, _, h1, h2, _⟩
  · rw [h]; exact Nat.zero_le _
  · exact Nat.le_trans h1 h2
def plaOk (p : Pla) : Bool := decide ((0 ≤ p.r ∧ p.r ≤ 9) ∧ (0 ≤ p.c ∧ p.c ≤ 9) ∧ (0 ≤ p.l ∧ p.l ≤ 99))
/-- there are five places, all in their limits -/
def arePl (L : List Pla) : Bool := decide (L.length = 5 ∧ ∀ j, j < L.length → plaOk (gQ L j) = true)
theorem arePl_len {L : List Pla} (h : arePl L = true) : L.length = 5 := (of_decide_eq_true h).1
theorem arePl_ok {L : List Pla} (h : arePl L = true) (j : Nat) (hj : j < 5) : plaOk (gQ L j) = true := (of_decide_eq_true h).2 j (by rw [arePl_len h]; exact hj)
theorem arePl_no {L : List Pla} {j : Nat} (hj : j < L.length) (h : plaOk (gQ L j) = false) : arePl L = false := decide_eq_false fun hh => by rw [hh.2 j hj] at h; cases h
theorem arePl_all {L : List Pla} (h : ∀ j, j < L.length → plaOk (gQ L j) = true) : arePl L = decide (L.length = 5) := by
  unfold arePl
  by_cases h5 : L.length = 5
  · rw [decide_eq_true ⟨h5, h⟩, decide_eq_true h5]
  · rw [decide_eq_false (fun hh => h5 hh.1), decide_eq_false h5]
def rkP (L : List Pla) (id : Int) : Int := (gQ L id.toNat).r
def ldP (L : List Pla) (id : Int) : Int := (gQ L id.toNat).l
def cpP (L : List Pla) (id : Int) : Int := (gQ L id.toNat).c
def roomP (L : List Pla) (id : Int) : Bool := arePl L && decide ((0 ≤ id ∧ id ≤ 4) ∧ ldP L id < cpP L id)
def racksP (L : List Pla) (m : List Int) : List Int := if arePl L = true ∧ are m = true then puts [] (m.map (rkP L)) else []
theorem racksP_len (L : List Pla) (m : List Int) : (racksP L m).length ≤ 5 := by
  unfold racksP
  split
  · rename_i h
    have h1 := puts_length (m.map (rkP L)) []
    have h2 := are_len h.2
    simp at h1
    omega
  · simp
theorem racksP_no {L : List Pla} {m : List Int} (h : ¬ (arePl L = true ∧ are m = true)) : racksP L m = [] := if_neg h
theorem racksP_yes {L : List Pla} {m : List Int} (h : arePl L = true ∧ are m = true) : racksP L m = puts [] (m.map (rkP L)) := if_pos h
def spreadP (L : List Pla) (m : List Int) : Bool := arePl L && (are m && decide ((racksP L m).length = m.length))

/-- the servers from 0 to k - 1 that may be taken -/
def freeP (L : List Pla) (m a : List Int) (id : Int) : Bool := roomP L id && (!decide (id ∈ m) && !decide (id ∈ a))
def candP (L : List Pla) (m a : List Int) (k : Nat) : List Int := ((List.range k).map fun i => ((i : Nat) : Int)).filter (freeP L m a)
theorem candP_snoc (L : List Pla) (m a : List Int) (k : Nat) : candP L m a (k + 1) = if freeP L m a (k : Int) = true then candP L m a k ++ [(k : Int)] else candP L m a k := by
  unfold candP
  rw [List.range_succ, List.map_append, List.filter_append]
  by_cases h : freeP L m a (k : Int) = true
  · rw [if_pos h]; simp [h]
  · rw [if_neg h]; simp [h]
theorem candP_len (L : List Pla) (m a : List Int) (k : Nat) : (candP L m a k).length ≤ k := by
  unfold candP
  have := List.length_filter_le (freeP L m a) ((List.range k).map fun i => ((i : Nat) : Int))
  simpa using this
theorem candP_mem {L : List Pla} {m a : List Int} {k : Nat} {x : Int} : x ∈ candP L m a k ↔ (0 ≤ x ∧ x < k) ∧ freeP L m a x = true := by
  unfold candP
  rw [List.mem_filter, List.mem_map]
  constructor
  · rintro ⟨⟨i, hi, rfl⟩, h⟩
    have := List.mem_range.1 hi
    exact ⟨by omega, h⟩
  · rintro ⟨⟨h0, h1⟩, h⟩
    exact ⟨⟨x.toNat, List.mem_range.2 (by omega), by omega⟩, h⟩
/-- 1 if the server's rack is taken -/
def rankP (L : List Pla) (R : List Int) (id : Int) : Int := if rkP L id ∈ R then 1 else 0
def cmpP (L : List Pla) (R : List Int) (a b : Int) : Int :=
  if Lib.compareInt (rankP L R a) (rankP L R b) ≠ 0 then Lib.compareInt (rankP L R a) (rankP L R b)
  else if Lib.compareInt (ldP L a) (ldP L b) ≠ 0 then Lib.compareInt (ldP L a) (ldP L b) else Lib.compareInt a b
def ltP (L : List Pla) (R : List Int) (a b : Int) : Prop := rankP L R a < rankP L R b ∨ (rankP L R a = rankP L R b ∧ (ldP L a < ldP L b ∨ (ldP L a = ldP L b ∧ a < b)))
theorem cmpI_lt (a b : Int) : Lib.compareInt a b < 0 ↔ a < b := by
  unfold Lib.compareInt
  by_cases h1 : a < b
  · simp [h1]
  · by_cases h2 : b < a <;> simp [h1, h2]
theorem cmpI_eq (a b : Int) : Lib.compareInt a b = 0 ↔ a = b := by
  unfold Lib.compareInt
  by_cases h1 : a < b
  · simp [h1]; omega
  · by_cases h2 : b < a
    · simp [h1, h2]; omega
    · simp [h1, h2]; omega
theorem cmpP_lt (L : List Pla) (R : List Int) (a b : Int) : cmpP L R a b < 0 ↔ ltP L R a b := by
  unfold cmpP ltP
  by_cases h1 : Lib.compareInt (rankP L R a) (rankP L R b) = 0
  · have h1' := (cmpI_eq _ _).1 h1
    rw [if_neg (by simp [h1])]
    by_cases h2 : Lib.compareInt (ldP L a) (ldP L b) = 0
    · have h2' := (cmpI_eq _ _).1 h2
      rw [if_neg (by simp [h2]), cmpI_lt]
      omega
    · have h2' : ¬ ldP L a = ldP L b := fun e => h2 ((cmpI_eq _ _).2 e)
      rw [if_pos h2, cmpI_lt]
      omega
  · have h1' : ¬ rankP L R a = rankP L R b := fun e => h1 ((cmpI_eq _ _).2 e)
    rw [if_pos h1, cmpI_lt]
    omega
theorem ltP_irr (L : List Pla) (R : List Int) (a : Int) : ¬ ltP L R a a := by unfold ltP; omega
theorem ltP_tr {L : List Pla} {R : List Int} {a b c : Int} (h1 : ltP L R a b) (h2 : ltP L R b c) : ltP L R a c := by unfold ltP at *; omega
theorem ltP_tot (L : List Pla) (R : List Int) (a b : Int) : ltP L R a b ∨ a = b ∨ ltP L R b a := by unfold ltP; omega
/-- the specification's word: a is the better one, b has the lower number -/
def betterP (L : List Pla) (R : List Int) (a b : Int) : Bool := if (decide (rkP L a ∈ R) != decide (rkP L b ∈ R)) = true then decide (rkP L b ∈ R) else decide (ldP L a < ldP L b)
theorem betterP_lt (L : List Pla) (R : List Int) (a b : Int) (h : b < a) : betterP L R a b = true ↔ ltP L R a b := by
  unfold betterP ltP rankP
  by_cases h1 : rkP L a ∈ R <;> by_cases h2 : rkP L b ∈ R <;> simp [h1, h2] <;> omega
/-- the best so far -/
def stepP (L : List Pla) (R : List Int) (best id : Int) : Int := if (decide (best < 0) || betterP L R id best) = true then id else best
def bestP (L : List Pla) (R m a : List Int) : Nat → Int
  | 0 => -1
  | k + 1 => if freeP L m a (k : Int) = true then stepP L R (bestP L R m a k) (k : Int) else bestP L R m a k
theorem bestP_ok (L : List Pla) (R m a : List Int) (k : Nat) : (candP L m a k = [] ∧ bestP L R m a k = -1) ∨ (bestP L R m a k ∈ candP L m a k ∧ ∀ y ∈ candP L m a k, y ≠ bestP L R m a k → ltP L R (bestP L R m a k) y) := by
  induction k with
  | zero => exact .inl ⟨by simp [candP], rfl⟩
  | succ k ih =>
    rw [candP_snoc]
    show (_ ∧ (if freeP L m a (k : Int) = true then stepP L R (bestP L R m a k) (k : Int) else bestP L R m a k) = -1) ∨ _
    have hb : bestP L R m a (k + 1) = if freeP L m a (k : Int) = true then stepP L R (bestP L R m a k) (k : Int) else bestP L R m a k := rfl
    by_cases hf : freeP L m a (k : Int) = true
    · rw [if_pos hf] at hb
      rw [if_pos hf]
      right
      rw [hb]
      rcases ih with ⟨h1, h2⟩ | ⟨h1, h2⟩
      · rw [h1, h2]
        have : stepP L R (-1) (k : Int) = (k : Int) := by unfold stepP; simp
        rw [this]
        refine ⟨by simp, fun y hy hne => ?_⟩
        simp at hy
        exact absurd hy hne
      · have hin := candP_mem.1 h1
        generalize bestP L R m a k = s at *
        have hs0 : ¬ s < 0 := by omega
        unfold stepP
        by_cases hbt : betterP L R (k : Int) s = true
        · have hlt := (betterP_lt L R (k : Int) s (by omega)).1 hbt
          rw [if_pos (by simp [hbt])]
          refine ⟨by simp, fun y hy hne => ?_⟩
          rw [List.mem_append] at hy
          rcases hy with hy | hy
          · by_cases hys : y = s
            · rw [hys]; exact hlt
            · exact ltP_tr hlt (h2 y hy hys)
          · simp at hy; exact absurd hy hne
        · have hnl : ¬ ltP L R (k : Int) s := fun h => hbt ((betterP_lt L R (k : Int) s (by omega)).2 h)
          rw [if_neg (by simp [hs0, hbt])]
          refine ⟨List.mem_append_left _ h1, fun y hy hne => ?_⟩
          rw [List.mem_append] at hy
          rcases hy with hy | hy
          · exact h2 y hy hne
          · simp at hy
            subst hy
            rcases ltP_tot L R s (k : Int) with h | h | h
            · exact h
            · exact absurd h.symm hne
            · exact absurd h hnl
    · rw [if_neg hf] at hb
      rw [if_neg hf, if_neg hf, hb]
      exact ih
/-- what PickSpare returns -/
def spareP (L : List Pla) (m a : List Int) : Int := if are m = true then bestP L (racksP L m) m a 5 else -1
theorem spareP_no {L : List Pla} {m a : List Int} (h : are m = false) : spareP L m a = -1 := by unfold spareP; rw [h]; rfl
theorem spareP_none {L : List Pla} {m a : List Int} (h : candP L m a 5 = []) : spareP L m a = -1 := by
  unfold spareP
  split
  · rcases bestP_ok L (racksP L m) m a 5 with h1 | h1
    · exact h1.2
    · rw [h] at h1; cases h1.1
  · rfl
/-- the first of the spares in the program's order -/
theorem spareP_first {L : List Pla} {m a : List Int} (hm : are m = true) {T : List Int} (hp : T.Perm (candP L m a 5)) (hs : ∀ j, 0 < j → j < T.length → ¬ ltP L (racksP L m) (T.getD j 0) (T.getD 0 0)) (h0 : 0 < T.length) : T.getD 0 0 = spareP L m a := by
  unfold spareP
  rw [if_pos hm]
  have ht : T.getD 0 0 ∈ candP L m a 5 := hp.mem_iff.1 (by simp [List.getD, h0])
  rcases bestP_ok L (racksP L m) m a 5 with h1 | ⟨h1, h2⟩
  · rw [h1.1] at ht; cases ht
  · by_cases he : T.getD 0 0 = bestP L (racksP L m) m a 5
    · exact he
    · have h3 := h2 _ ht he
      obtain ⟨j, hj, e⟩ := List.getElem_of_mem (hp.mem_iff.2 h1)
      have e' : T.getD j 0 = bestP L (racksP L m) m a 5 := by simp [List.getD, hj, e]
      by_cases hj0 : j = 0
      · subst hj0; exact absurd e' he
      · have := hs j (by omega) hj
        rw [e'] at this
        exact absurd h3 this
theorem spareP_free {L : List Pla} {m a : List Int} (h : ¬ spareP L m a < 0) : freeP L m a (spareP L m a) = true ∧ 0 ≤ spareP L m a ∧ spareP L m a < 5 := by
  unfold spareP at *
  split at h
  · rename_i hm
    rw [if_pos hm]
    rcases bestP_ok L (racksP L m) m a 5 with h1 | ⟨h1, _⟩
    · rw [h1.2] at h; omega
    · have := candP_mem.1 h1
      exact ⟨this.2, this.1⟩
  · omega
theorem free_parts {L : List Pla} {m a : List Int} {x : Int} (h : freeP L m a x = true) : roomP L x = true ∧ x ∉ m ∧ x ∉ a := by
  unfold freeP at h
  simp at h
  exact ⟨h.1, h.2.1, h.2.2⟩
theorem spareP_fresh {L : List Pla} {m a : List Int} (h : ¬ spareP L m a < 0) : spareP L m a ∉ m := (free_parts (spareP_free h).1).2.1
theorem spareP_neg {L : List Pla} {m a : List Int} (h : spareP L m a < 0) : spareP L m a = -1 := by
  unfold spareP at *
  split at h
  · rename_i hm
    rw [if_pos hm]
    rcases bestP_ok L (racksP L m) m a 5 with h1 | ⟨h1, _⟩
    · exact h1.2
    · have := candP_mem.1 h1; omega
  · rename_i hm
    rw [if_neg hm]

/-- those that are not in the list -/
def outP (a : List Int) (k : Nat) : List Int := ((List.range k).map fun i => ((i : Nat) : Int)).filter fun x => decide (x ∉ a)
theorem outP_snoc (a : List Int) (k : Nat) : outP a (k + 1) = if (k : Int) ∈ a then outP a k else outP a k ++ [(k : Int)] := by
  unfold outP
  rw [List.range_succ, List.map_append, List.filter_append]
  by_cases h : (k : Int) ∈ a
  · rw [if_pos h]; simp [h]
  · rw [if_neg h]; simp [h]
theorem outP_len (a : List Int) (k : Nat) : (outP a k).length ≤ k := by
  unfold outP
  have := List.length_filter_le (fun x => decide (x ∉ a)) ((List.range k).map fun i => ((i : Nat) : Int))
  simpa using this
theorem put_app {l : List Int} {x : Int} (h : ∀ y ∈ l, y < x) : put l x = l ++ [x] := by
  induction l with
  | nil => rw [put_nil]; rfl
  | cons a l ih =>
    rw [put_cons, if_pos (h a (by simp)), ih (fun y hy => h y (by simp [hy]))]
    rfl
theorem puts_self {l : List Int} (h : Asc l) : puts [] l = l := asc_ext (puts_asc _ asc_nil) h (fun x => by rw [puts_mem]; simp)
theorem outP_without (a : List Int) : without [0, 1, 2, 3, 4] a = outP a 5 := by
  have : Asc (outP a 5) := by
    unfold outP
    exact List.Pairwise.filter _ (by decide)
  unfold without
  exact puts_self this
/-- what is added to a plan -/
def addP (L : List Pla) (dead : List Int) : Nat → List Int → List Int
  | 0, p => p
  | n + 1, p => if spareP L p dead < 0 then p else addP L dead n (put p (spareP L p dead))
theorem put_new {l : List Int} {x : Int} (h : x ∉ l) : (put l x).length = l.length + 1 := by
  unfold put
  have hlow := low_le l x
  rw [if_neg]
  · simp; omega
  · rintro ⟨h1, h2⟩
    apply h
    rw [← h2]
    simp [List.getD, h1]
theorem addP_len (L : List Pla) (dead : List Int) (n : Nat) (p : List Int) : (addP L dead n p).length ≤ p.length + n := by
  induction n generalizing p with
  | zero => exact Nat.le_refl _
  | succ n ih =>
    unfold addP
    split
    · omega
    · have := ih (put p (spareP L p dead))
      have := put_length p (spareP L p dead)
      omega
/-- the plan from a plan on -/
def fromP (L : List Pla) (dead : List Int) (want : Int) (p : List Int) : List Int := addP L dead (want.toNat - p.length) p
theorem fromP_done {L : List Pla} {dead p : List Int} {want : Int} (h : want ≤ p.length) : fromP L dead want p = p := by
  unfold fromP
  rw [show want.toNat - p.length = 0 by omega]
  rfl
theorem fromP_stop {L : List Pla} {dead p : List Int} {want : Int} (h : spareP L p dead < 0) : fromP L dead want p = p := by
  unfold fromP
  cases want.toNat - p.length with
  | zero => rfl
  | succ n => unfold addP; rw [if_pos h]
theorem fromP_step {L : List Pla} {dead p : List Int} {want : Int} (hl : (p.length : Int) < want) (h : ¬ spareP L p dead < 0) : fromP L dead want p = fromP L dead want (put p (spareP L p dead)) := by
  unfold fromP
  rw [put_new (spareP_fresh h), show want.toNat - p.length = (want.toNat - (p.length + 1)) + 1 by omega]
  show (if spareP L p dead < 0 then p else _) = _
  rw [if_neg h]
def planOk (L : List Pla) (m a : List Int) (want : Int) : Bool := arePl L && (are m && (are a && decide (0 ≤ want ∧ want ≤ 5)))
def planP (L : List Pla) (m a : List Int) (want : Int) : List Int := if planOk L m a want = true then fromP L (outP a 5) want (common m a) else []
theorem planP_len (L : List Pla) (m a : List Int) (want : Int) : (planP L m a want).length ≤ 10 := by
  unfold planP
  split
  · rename_i h
    unfold planOk at h
    simp at h
    have h1 := are_len h.2.1
    have h2 : (common m a).length ≤ 5 := by
      unfold common
      have := puts_length (m.filter fun x => decide (x ∈ a)) []
      have := List.length_filter_le (fun x => decide (x ∈ a)) m
      simp at *
      omega
    have := addP_len L (outP a 5) (want.toNat - (common m a).length) (common m a)
    unfold fromP
    omega
  · simp
theorem unite_one {p : List Int} (h : Asc p) (x : Int) : unite p [x] = put p x := by
  unfold unite
  rw [puts_self h]
  rfl
end Go.Proofs.Ytpdpejlcilnafaa.kit
