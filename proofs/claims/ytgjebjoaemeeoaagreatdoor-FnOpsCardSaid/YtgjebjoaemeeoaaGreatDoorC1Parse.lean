/-
  Chapter 1, decimal numbers: what spec's and impl's ParseInt return, for every string.
-/
import Derived.Test.YtgjebjoaemeeoaaGreatDoorC1Int
import Derived.Lib.OthersKept
import Derived.WalkSmall
import Derived.Lib.Strings
import Derived.Deep.DeepCutAuto
import Derived.Deep.RegionWith
namespace Go.Proofs.YtgjebjoaemeeoaaGreatDoor.kit
open Go.ChangeShapes Go.WideShapes Go.ChangeAt Go.RowKit
set_option linter.unusedVariables false

def isDig (b : UInt8) : Bool := decide (48 ≤ b.toNat ∧ b.toNat ≤ 57)
/-- the number that a list's digits stand for; what is no digit is passed over -/
def dsum (l : List UInt8) : Nat := l.foldl (fun a b => if isDig b then a * 10 + (b.toNat - 48) else a) 0
def dcount (l : List UInt8) : Nat := (l.filter isDig).length
theorem dsum_snoc (l : List UInt8) (b : UInt8) : dsum (l ++ [b]) = if isDig b then dsum l * 10 + (b.toNat - 48) else dsum l := by simp [dsum]
theorem dcount_snoc (l : List UInt8) (b : UInt8) : dcount (l ++ [b]) = if isDig b then dcount l + 1 else dcount l := by
  unfold dcount
  rw [List.filter_append, List.length_append]
  cases h : isDig b <;> simp [h]
theorem dsum_lt (l : List UInt8) : dsum l < 10 ^ dcount l := by
  induction l using bytes_rec with
  | h0 => simp [dsum, dcount]
  | h1 l b ih =>
    rw [dsum_snoc, dcount_snoc]
    cases h : isDig b with
    | false => simpa using ih
    | true =>
      have hb : b.toNat ≤ 57 := by unfold isDig at h; simp at h; omega
      simp only [if_true, Nat.pow_succ]
      omega
theorem dcount_le (l : List UInt8) : dcount l ≤ l.length := List.length_filter_le _ _
theorem digit_at : ∀ k : Nat, k < 10 → isDig (UInt8.ofNat (48 + k)) = true ∧ (UInt8.ofNat (48 + k)).toNat = 48 + k := by decide +kernel
theorem dec_sum : ∀ u : Nat, dsum (Lib.decDigits u) = u ∧ dcount (Lib.decDigits u) = (Lib.decDigits u).length ∧ (∀ b ∈ Lib.decDigits u, isDig b = true) := by
  intro u
  induction u using Nat.strongRecOn with
  | _ u ih =>
    by_cases h : u < 10
    · rw [decDigits_small h]
      have hd := digit_at u h
      refine ⟨?_, ?_, ?_⟩
      · have := dsum_snoc [] (UInt8.ofNat (48 + u))
        rw [List.nil_append] at this
        rw [this, if_pos hd.1, hd.2]; simp [dsum]
      · have := dcount_snoc [] (UInt8.ofNat (48 + u))
        rw [List.nil_append] at this
        rw [this, if_pos hd.1]; rfl
      · intro b hb
        simp only [List.mem_singleton] at hb
        rw [hb]; exact hd.1
    · rw [decDigits_big h]
      have hd := digit_at (u % 10) (Nat.mod_lt _ (by omega))
      have hi := ih (u / 10) (by omega)
      refine ⟨?_, ?_, ?_⟩
      · rw [dsum_snoc, if_pos hd.1, hd.2, hi.1]; omega
      · rw [dcount_snoc, if_pos hd.1, hi.2.1, List.length_append]; rfl
      · intro b hb
        rcases List.mem_append.1 hb with hb | hb
        · exact hi.2.2 b hb
        · simp only [List.mem_singleton] at hb
          rw [hb]; exact hd.1
theorem decDigits_length_le {u : Nat} (h : u < 1000000000) : (Lib.decDigits u).length ≤ 9 := decDigits_length 8 u h
theorem not_dig_minus : isDig 45 = false := by decide
theorem decDigits_pos (u : Nat) : 0 < (Lib.decDigits u).length := by
  by_cases h : u < 10
  · rw [decDigits_small h]; simp
  · rw [decDigits_big h]; simp
theorem decDigits_head (u : Nat) : (Lib.decDigits u).head? ≠ some 45 := by
  intro h
  have := (dec_sum u).2.2 45 (List.mem_of_mem_head? h)
  rw [not_dig_minus] at this
  cases this

/-- the number that a numeral's text stands for: minus where it begins so -/
def cand (l : List UInt8) : Int := if l.head? = some 45 then -(dsum l : Int) else dsum l
theorem dsum_minus (l : List UInt8) : dsum (45 :: l) = dsum l := by
  unfold dsum
  rw [List.foldl_cons, not_dig_minus]; rfl
theorem dcount_minus (l : List UInt8) : dcount (45 :: l) = dcount l := by
  unfold dcount
  rw [List.filter_cons, not_dig_minus]; rfl
theorem cand_itoa (n : Int) : cand (Lib.itoa n) = n := by
  unfold Lib.itoa cand
  by_cases h : n < 0
  · rw [if_pos h, List.head?_cons, if_pos rfl, dsum_minus, (dec_sum n.natAbs).1]; omega
  · rw [if_neg h, if_neg (decDigits_head _), (dec_sum n.toNat).1]; omega
theorem itoa_count {n : Int} : dcount (Lib.itoa n) = (Lib.decDigits n.natAbs).length := by
  unfold Lib.itoa
  by_cases h : n < 0
  · rw [if_pos h, dcount_minus, (dec_sum _).2.1]
  · rw [if_neg h, (dec_sum _).2.1]
    congr 1
    congr 1
    omega
theorem itoa_length {n : Int} : (Lib.itoa n).length ≤ (Lib.decDigits n.natAbs).length + 1 := by
  unfold Lib.itoa
  by_cases h : n < 0
  · rw [if_pos h]; simp
  · rw [if_neg h, show n.toNat = n.natAbs by omega]; omega
theorem decDigits_lt {u k : Nat} (h : (Lib.decDigits u).length ≤ k) : u < 10 ^ k := by
  have h1 := dsum_lt (Lib.decDigits u)
  rw [(dec_sum u).1, (dec_sum u).2.1] at h1
  exact Nat.lt_of_lt_of_le h1 (Nat.pow_le_pow_right (by omega) h)

/-- ParseInt's two results: the number whose numeral is l, if it has at most nine digits -/
def parOk (l : List UInt8) : Bool := decide (Lib.itoa (cand l) = l ∧ (cand l).natAbs < 1000000000)
def parN (l : List UInt8) : Int := if parOk l then cand l else 0
theorem par_yes {l : List UInt8} {n : Int} (h : Lib.itoa n = l) (hn : n.natAbs < 1000000000) : parOk l = true ∧ parN l = n := by
  subst h
  have h1 : parOk (Lib.itoa n) = true := by unfold parOk; rw [cand_itoa]; simpa using hn
  exact ⟨h1, by unfold parN; rw [h1, cand_itoa]; rfl⟩
theorem par_no {l : List UInt8} (h : ∀ n : Int, n.natAbs < 1000000000 → Lib.itoa n ≠ l) : parOk l = false ∧ parN l = 0 := by
  have h1 : parOk l = false := by
    unfold parOk
    rw [decide_eq_false]
    intro ⟨h2, h3⟩
    exact h _ h3 h2
  exact ⟨h1, by unfold parN; rw [h1]; rfl⟩
theorem par_long {l : List UInt8} (h : 10 < l.length) : parOk l = false ∧ parN l = 0 := par_no fun n hn he => by
  subst he
  have h1 := itoa_length (n := n)
  have h2 := decDigits_length_le hn
  omega
theorem par_many {l : List UInt8} (h : 9 < dcount l) : parOk l = false ∧ parN l = 0 := par_no fun n hn he => by
  subst he
  have h1 := itoa_count (n := n)
  have h2 := decDigits_length_le hn
  omega
theorem cand_lt {l : List UInt8} (h : dcount l ≤ 9) : (cand l).natAbs < 1000000000 := by
  have h1 := dsum_lt l
  have h2 := Nat.pow_le_pow_right (show 10 > 0 by omega) h
  have h3 : 10 ^ 9 = 1000000000 := by decide
  unfold cand
  split <;> omega
theorem par_same {l : List UInt8} (hc : dcount l ≤ 9) (h : Lib.itoa (cand l) = l) : parOk l = true ∧ parN l = cand l := par_yes h (cand_lt hc)
theorem par_other {l : List UInt8} (h : Lib.itoa (cand l) ≠ l) : parOk l = false ∧ parN l = 0 := par_no fun n _ he => by
  subst he
  rw [cand_itoa] at h
  exact h rfl

end Go.Proofs.YtgjebjoaemeeoaaGreatDoor.kit
