/-
  Chapter 1, hexadecimal digits: what spec's DecodeHex returns, for every string; the digits' values.
-/
import Derived.Test.YtmojigimlhjphaaDoorC1Hex
namespace Go.Proofs.YtmojigimlhjphaaDoor.kit
open Go.ChangeShapes Go.WideShapes Go.ChangeAt Go.RowKit
set_option linter.unusedVariables false

/-- a digit's value, or 16 -/
def hval (n : Nat) : Nat := if 48 ≤ n ∧ n ≤ 57 then n - 48 else if 97 ≤ n ∧ n ≤ 102 then n - 87 else 16
/-- .. as Go tells it: -1 for none -/
def hvi (n : Nat) : Int := if hval n < 16 then (hval n : Int) else -1
theorem hexc_hval : ∀ k : Nat, k < 16 → hval (hexc k).toNat = k := by decide +kernel
theorem hval_hexc (b : UInt8) (h : hval b.toNat < 16) : hexc (hval b.toNat) = b := by
  have h1 : ∀ n : Nat, n < 256 → hval n < 16 → hexc (hval n) = UInt8.ofNat n := by decide +kernel
  have := h1 b.toNat b.toNat_lt h
  rw [this, UInt8.ofNat_toNat]
theorem hexc_ne (b : UInt8) {k : Nat} (hk : k < 16) (h : hval b.toNat ≠ k) : hexc k ≠ b := by
  intro e
  subst e
  exact h (hexc_hval k hk)
theorem hval_le (n : Nat) : hval n ≤ 16 := by unfold hval; split <;> (try split) <;> omega
theorem hval_big {n : Nat} (h : 128 ≤ n) : hval n = 16 := by unfold hval; rw [if_neg (by omega), if_neg (by omega)]
def good (l : List UInt8) : Bool := l.all fun b => decide (hval b.toNat < 16)
/-- the bytes that pairs of digits stand for -/
def dec : List UInt8 → List UInt8
  | a :: b :: r => UInt8.ofNat (16 * hval a.toNat + hval b.toNat) :: dec r
  | _ => []
theorem dec_two : ∀ (l : List UInt8) (a b : UInt8), l.length % 2 = 0 → dec (l ++ [a, b]) = dec l ++ [UInt8.ofNat (16 * hval a.toNat + hval b.toNat)]
  | [], a, b, _ => rfl
  | [x], a, b, h => by simp at h
  | x :: y :: r, a, b, h => by
    simp only [List.cons_append, dec]
    rw [dec_two r a b (by simp at h; omega)]
theorem dec_one : ∀ (l : List UInt8) (a : UInt8), l.length % 2 = 0 → dec (l ++ [a]) = dec l
  | [], a, _ => rfl
  | [x], a, h => by simp at h
  | x :: y :: r, a, h => by
    simp only [List.cons_append, dec]
    rw [dec_one r a (by simp at h; omega)]
theorem dec_length : ∀ l : List UInt8, (dec l).length ≤ l.length
  | [] => by simp [dec]
  | [x] => by simp [dec]
  | x :: y :: r => by
    have := dec_length r
    simp only [dec, List.length_cons]; omega
def decHok (l : List UInt8) : Bool := decide (l.length % 2 = 0) && good l
def decHs (l : List UInt8) : List UInt8 := if decHok l then dec l else []
theorem good_take {l : List UInt8} {k : Nat} (h : good (l.take k) = false) : good l = false := by
  rw [← List.take_append_drop k l]
  unfold good at h ⊢
  rw [List.all_append, h]; rfl
theorem good_snoc (l : List UInt8) (b : UInt8) : good (l ++ [b]) = (good l && decide (hval b.toNat < 16)) := by simp [good]

theorem decH_odd {l : List UInt8} (h : l.length % 2 = 1) : decHok l = false ∧ decHs l = [] := by
  have : decHok l = false := by unfold decHok; rw [decide_eq_false (by omega)]; rfl
  exact ⟨this, by unfold decHs; rw [this]; rfl⟩
theorem decH_bad {l : List UInt8} (h : good l = false) : decHok l = false ∧ decHs l = [] := by
  have : decHok l = false := by unfold decHok; rw [h, Bool.and_false]
  exact ⟨this, by unfold decHs; rw [this]; rfl⟩
theorem decH_good {l : List UInt8} (h : l.length % 2 = 0) (hg : good l = true) : decHok l = true ∧ decHs l = dec l := by
  have : decHok l = true := by unfold decHok; rw [hg, decide_eq_true h]; rfl
  exact ⟨this, by unfold decHs; rw [this]; rfl⟩
theorem hvi_neg {n : Nat} (h : ¬ hval n < 16) : hvi n = -1 := by unfold hvi; rw [if_neg h]
theorem hvi_pos {n : Nat} (h : hval n < 16) : hvi n = hval n := by unfold hvi; rw [if_pos h]
end Go.Proofs.YtmojigimlhjphaaDoor.kit
