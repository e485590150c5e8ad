/-
  Plain lists of bytes: cut at every x, split at most k times, joined again; numerals hold no sign of punctuation.
-/
import Derived.Test.YtgjebjoaemeeoaaGreatDoorC1Parse
import Derived.Lib.Split
import Derived.Lib.IndexBytes
import Derived.Lib.Join
namespace Go.Proofs.YtgjebjoaemeeoaaGreatDoor.kit
set_option linter.unusedVariables false
set_option linter.unusedSimpArgs false

/-- cut at every x -/
def cuts (x : UInt8) : List UInt8 → List (List UInt8)
  | [] => [[]]
  | b :: l => if b = x then [] :: cuts x l else (b :: (cuts x l).headD []) :: (cuts x l).tail
theorem cuts_ne (x : UInt8) (l : List UInt8) : cuts x l ≠ [] := by
  cases l with
  | nil => simp [cuts]
  | cons b l => unfold cuts; split <;> simp
theorem cuts_none {x : UInt8} {p : List UInt8} (h : x ∉ p) : cuts x p = [p] := by
  induction p with
  | nil => rfl
  | cons b p ih =>
    have hb : b ≠ x := fun e => h (by rw [e]; simp)
    have hp : x ∉ p := fun e => h (by simp [e])
    unfold cuts
    rw [if_neg hb, ih hp]; rfl
theorem cuts_app {x : UInt8} {p r : List UInt8} (h : x ∉ p) : cuts x (p ++ x :: r) = p :: cuts x r := by
  induction p with
  | nil => simp [cuts]
  | cons b p ih =>
    have hb : b ≠ x := fun e => h (by rw [e]; simp)
    have hp : x ∉ p := fun e => h (by simp [e])
    rw [List.cons_append, cuts, if_neg hb, ih hp]; rfl
theorem cuts_len (x : UInt8) (l : List UInt8) : (cuts x l).length ≤ l.length + 1 := by
  induction l with
  | nil => simp [cuts]
  | cons b l ih =>
    unfold cuts
    split
    · simp; omega
    · have := List.length_pos_iff.2 (cuts_ne x l)
      simp [List.length_tail]; omega

theorem cuts_mem {x : UInt8} {l p : List UInt8} (h : p ∈ cuts x l) : p.length ≤ l.length := by
  induction l generalizing p with
  | nil => simp [cuts] at h; simp [h]
  | cons b l ih =>
    unfold cuts at h
    split at h
    · rcases List.mem_cons.1 h with rfl | h
      · simp
      · have := ih h; simp; omega
    · have hne := cuts_ne x l
      generalize cuts x l = q at h ih hne
      cases q with
      | nil => exact absurd rfl hne
      | cons a q =>
        rcases List.mem_cons.1 h with rfl | h
        · have := ih (p := a) (by simp); simpa using this
        · have := ih (p := p) (List.mem_cons_of_mem _ h); simp; omega
theorem cuts_getD {x : UInt8} {l : List UInt8} (j : Nat) : ((cuts x l).getD j []).length ≤ l.length := by
  rcases Nat.lt_or_ge j (cuts x l).length with h | h
  · rw [List.getD_eq_getElem?_getD, List.getElem?_eq_getElem h]; exact cuts_mem (List.getElem_mem h)
  · rw [List.getD_eq_getElem?_getD, List.getElem?_eq_none h]; simp

theorem indexByte_app {x : UInt8} {p r : List UInt8} (h : x ∉ p) : Lib.indexByte (p ++ x :: r) x = p.length := by
  induction p with
  | nil => simp [Lib.indexByte]
  | cons b p ih =>
    have hb : (b == x) = false := by rw [beq_eq_false_iff_ne]; exact fun e => h (by rw [e]; simp)
    have hp : x ∉ p := fun e => h (by simp [e])
    have h1 : ((p.length : Int) == -1) = false := by rw [beq_eq_false_iff_ne]; omega
    rw [List.cons_append, Lib.indexByte, hb, ih hp, h1]; simp
theorem indexByte_no {x : UInt8} {p : List UInt8} (h : x ∉ p) : Lib.indexByte p x = -1 := by
  induction p with
  | nil => rfl
  | cons b p ih =>
    have hb : (b == x) = false := by rw [beq_eq_false_iff_ne]; exact fun e => h (by rw [e]; simp)
    have hp : x ∉ p := fun e => h (by simp [e])
    rw [Lib.indexByte, hb, ih hp]; simp
/-- a text holds x, and then it is what lies ahead of the first x, x, and the rest; or it does not -/
theorem first_x (x : UInt8) (l : List UInt8) : x ∉ l ∨ ∃ p r, x ∉ p ∧ l = p ++ x :: r := by
  induction l with
  | nil => exact .inl (by simp)
  | cons b l ih =>
    by_cases hb : b = x
    · subst hb; exact .inr ⟨[], l, by simp, rfl⟩
    · rcases ih with h | ⟨p, r, h, rfl⟩
      · exact .inl (by simp [Ne.symm hb, h])
      · exact .inr ⟨b :: p, r, by simp [Ne.symm hb, h], rfl⟩
theorem split_none {x : UInt8} {p : List UInt8} (h : x ∉ p) (k : Nat) : Lib.splitK [x] 0 k p = [p] := by
  cases k with
  | zero => rfl
  | succ k => rw [Lib.splitK, Lib.index_one, indexByte_no h]; rfl
theorem split_app {x : UInt8} {p r : List UInt8} (h : x ∉ p) (k : Nat) : Lib.splitK [x] 0 (k + 1) (p ++ x :: r) = p :: Lib.splitK [x] 0 k r := by
  have h1 : ((p.length : Int) == -1) = false := by rw [beq_eq_false_iff_ne]; omega
  have e : (p ++ x :: r).drop (p.length + 1) = r := by rw [show p ++ x :: r = (p ++ [x]) ++ r by simp, List.drop_left' (by simp)]
  rw [Lib.splitK, Lib.index_one, indexByte_app h, h1]
  simp [e]
theorem cut_none {x : UInt8} {p : List UInt8} (h : x ∉ p) : Lib.cut p [x] = (p, [], false) := by
  unfold Lib.cut
  rw [Lib.index_one, indexByte_no h]; simp
theorem cut_app {x : UInt8} {p r : List UInt8} (h : x ∉ p) : Lib.cut (p ++ x :: r) [x] = (p, r, true) := by
  have e : (p ++ x :: r).drop (p.length + 1) = r := by rw [show p ++ x :: r = (p ++ [x]) ++ r by simp, List.drop_left' (by simp)]
  unfold Lib.cut
  rw [Lib.index_one, indexByte_app h]
  simp [e]
/-- the pieces, joined again -/
def joinX (x : UInt8) : List (List UInt8) → List UInt8
  | [] => []
  | [p] => p
  | p :: ps => p ++ x :: joinX x ps
theorem join_split (x : UInt8) : ∀ (k : Nat) (l : List UInt8), joinX x (Lib.splitK [x] 0 k l) = l
  | 0, l => rfl
  | k + 1, l => by
    rcases first_x x l with h | ⟨p, r, h, rfl⟩
    · rw [split_none h]; rfl
    · rw [split_app h]
      have ih := join_split x k r
      generalize hq : Lib.splitK [x] 0 k r = q at ih
      cases q with
      | nil => cases k <;> (unfold Lib.splitK at hq; first | (split at hq <;> cases hq) | cases hq)
      | cons a q => rw [joinX, ih]; simp
theorem split_pos (x : UInt8) (k : Nat) (l : List UInt8) : 0 < (Lib.splitK [x] 0 k l).length := by
  cases k with
  | zero => simp [Lib.splitK]
  | succ k => unfold Lib.splitK; split <;> simp

/-! ### numerals hold no blank and no dot -/
theorem itoa_byte {n : Int} (h : 0 ≤ n) : ∀ b ∈ Lib.itoa n, 48 ≤ b.toNat ∧ b.toNat ≤ 57 := by
  intro b hb
  unfold Lib.itoa at hb
  rw [if_neg (by omega)] at hb
  have := (dec_sum n.toNat).2.2 b hb
  unfold isDig at this
  exact of_decide_eq_true this
theorem itoa_no {n : Int} (h : 0 ≤ n) {x : UInt8} (hx : x.toNat < 48) : x ∉ Lib.itoa n := fun hb => by have := itoa_byte h x hb; omega
theorem par_itoa {n : Int} (h0 : 0 ≤ n) (h1 : n < 1000000000) : parOk (Lib.itoa n) = true ∧ parN (Lib.itoa n) = n := par_yes rfl (by omega)
theorem itoa_par {l : List UInt8} (h : parOk l = true) : Lib.itoa (parN l) = l := by
  unfold parN
  rw [h]
  exact (of_decide_eq_true h).1
theorem par_nil : parOk [] = false := by
  cases h : parOk [] with
  | false => rfl
  | true =>
    have := itoa_par h
    have hp : 0 < (Lib.itoa (parN [])).length := by
      unfold Lib.itoa
      split
      · simp
      · exact decDigits_pos _
    rw [this] at hp; simp at hp

/-- a number from 0 up, else -1 -/
def numL (l : List UInt8) : Int := if parOk l && decide (0 ≤ parN l) then parN l else -1
theorem num_itoa {n : Int} (h0 : 0 ≤ n) (h1 : n < 1000000000) : numL (Lib.itoa n) = n := by
  have := par_itoa h0 h1
  unfold numL
  rw [this.1, this.2, decide_eq_true h0]; rfl
def allPar (ps : List (List UInt8)) : Bool := ps.all parOk
theorem cuts_join {x : UInt8} : ∀ {ps : List (List UInt8)}, ps ≠ [] → (∀ p ∈ ps, x ∉ p) → cuts x (joinX x ps) = ps
  | [], h, _ => absurd rfl h
  | [p], _, h => cuts_none (h p (by simp))
  | p :: q :: ps, _, h => by
    rw [joinX, cuts_app (h p (by simp)), cuts_join (by simp) (fun y hy => h y (by simp only [List.mem_cons] at hy ⊢; exact .inr hy))]
    simp
theorem split_join {x : UInt8} : ∀ {ps : List (List UInt8)} {k : Nat}, ps ≠ [] → (∀ p ∈ ps, x ∉ p) → ps.length ≤ k + 1 → Lib.splitK [x] 0 k (joinX x ps) = ps
  | [], _, h, _, _ => absurd rfl h
  | [p], k, _, h, _ => split_none (h p (by simp)) k
  | p :: q :: ps, 0, _, _, hl => by simp at hl
  | p :: q :: ps, k + 1, _, h, hl => by
    rw [joinX, split_app (h p (by simp)), split_join (by simp) (fun y hy => h y (by simp only [List.mem_cons] at hy ⊢; exact .inr hy)) (by simpa using hl)]
    simp
theorem join_joinX (x : UInt8) : ∀ ps : List (List UInt8), Lib.join ps [x] = joinX x ps
  | [] => rfl
  | [p] => by rw [Lib.join_cons]; simp [Lib.joinTail, joinX]
  | p :: q :: ps => by
    have ih := join_joinX x (q :: ps)
    rw [Lib.join_cons] at ih ⊢
    have e : joinX x (p :: q :: ps) = p ++ x :: joinX x (q :: ps) := by simp [joinX]
    rw [e, ← ih]
    simp [Lib.joinTail]
theorem split_mem (x : UInt8) : ∀ (k : Nat) (l p : List UInt8), p ∈ Lib.splitK [x] 0 k l → p.length ≤ l.length
  | 0, l, p, h => by
    rw [show Lib.splitK [x] 0 0 l = [l] from rfl, List.mem_singleton] at h
    rw [h]; exact Nat.le_refl _
  | k + 1, l, p, h => by
    rcases first_x x l with hf | ⟨a, r, hf, rfl⟩
    · rw [split_none hf, List.mem_singleton] at h
      rw [h]; exact Nat.le_refl _
    · rw [split_app hf] at h
      rcases List.mem_cons.1 h with rfl | h
      · simp
      · have := split_mem x k r p h
        simp; omega
theorem cut_len (p : List UInt8) : (Lib.cut p [46]).1.length ≤ p.length ∧ (Lib.cut p [46]).2.1.length ≤ p.length := by
  rcases first_x 46 p with h | ⟨a, r, h, rfl⟩
  · rw [cut_none h]; simp
  · rw [cut_app h]; simp; omega
end Go.Proofs.YtgjebjoaemeeoaaGreatDoor.kit
