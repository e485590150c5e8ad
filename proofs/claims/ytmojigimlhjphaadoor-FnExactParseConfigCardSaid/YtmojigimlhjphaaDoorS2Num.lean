/-
  Chapter 2: how sets are read: the numbers of a string's digits; when a string is the format of a set; the numbers of a set's bits.
-/
import Derived.Test.YtmojigimlhjphaaDoorS2Fmt
import Derived.Lib.OthersKept
namespace Go.Proofs.YtmojigimlhjphaaDoor.kit
open Go.ChangeShapes Go.WideShapes Go.ChangeAt Go.RowKit
set_option linter.unusedVariables false
set_option linter.unusedSimpArgs false

def vals (bs : List UInt8) : List Int := bs.map fun b => (b.toNat : Int) - 48
def okB (bs : List UInt8) : Bool := decide (bs ≠ []) && are (vals bs)
def parseSok (bs : List UInt8) : Bool := decide (bs = [110, 111, 110, 101]) || okB bs
def parseS (bs : List UInt8) : List Int := if okB bs = true then vals bs else []
theorem vals_length (bs : List UInt8) : (vals bs).length = bs.length := by simp [vals]
theorem vals_get (bs : List UInt8) (k : Nat) (h : k < bs.length) : (vals bs).getD k 0 = (bs[k].toNat : Int) - 48 := by simp [vals, List.getD, h]
theorem vals_take (bs : List UInt8) (k : Nat) : vals (bs.take k) = (vals bs).take k := by simp [vals, List.map_take]
theorem okB_len {bs : List UInt8} (h : okB bs = true) : bs.length ≤ 5 := by
  have h2 : are (vals bs) = true := by unfold okB at h; simp at h; exact h.2
  have := are_len h2; rwa [vals_length] at this
theorem parseS_len (bs : List UInt8) : (parseS bs).length ≤ 4194304 := by
  unfold parseS
  by_cases h : okB bs = true
  · rw [if_pos h, vals_length]; have := okB_len h; omega
  · rw [if_neg h]; simp
theorem parseS_len5 (bs : List UInt8) : (parseS bs).length ≤ 5 := by
  unfold parseS
  by_cases h : okB bs = true
  · rw [if_pos h, vals_length]; exact okB_len h
  · rw [if_neg h]; simp
theorem digs_vals {bs : List UInt8} (h : are (vals bs) = true) : digs (vals bs) = bs := by
  have hl := are_lt h
  unfold digs
  apply List.ext_getElem (by simp [vals])
  intro i h1 h2
  have h3 := hl i (by rw [vals_length]; exact h2)
  rw [vals_get bs i h2] at h3
  simp only [List.getElem_map, vals]
  have e : 48 + ((bs[i].toNat : Int) - 48).toNat = bs[i].toNat := by omega
  rw [e]; simp
theorem fmt_vals {bs : List UInt8} (h0 : bs ≠ []) : decide (fmtS (vals (bs.take 6)) = bs) = okB bs := by
  rw [Bool.eq_iff_iff, decide_eq_true_iff]
  constructor
  · intro h
    unfold fmtS at h
    by_cases ha : are (vals (bs.take 6)) = true
    · have hne : bs.take 6 ≠ [] := by simp [h0]
      rw [if_pos ha, if_neg (by rw [vals_length]; intro e; exact hne (List.eq_nil_of_length_eq_zero e)), digs_vals ha] at h
      have ht : bs.take 6 = bs := h
      rw [ht] at ha
      unfold okB; rw [ha, decide_eq_true h0]; rfl
    · rw [if_neg ha] at h; exact absurd h.symm h0
  · intro h
    have hl := okB_len h
    have ha : are (vals bs) = true := by unfold okB at h; simp at h; exact h.2
    rw [List.take_of_length_le (by omega)]
    unfold fmtS
    rw [if_pos ha, if_neg (by rw [vals_length]; intro e; exact h0 (List.eq_nil_of_length_eq_zero e)), digs_vals ha]
theorem okB_none : okB [110, 111, 110, 101] = false := by decide
theorem parse_none : parseS [110, 111, 110, 101] = [] ∧ parseSok [110, 111, 110, 101] = true := by decide
theorem parse_bad {bs : List UInt8} (hn : bs ≠ [110, 111, 110, 101]) (h : okB bs = false) : parseS bs = [] ∧ parseSok bs = false := by
  unfold parseS parseSok; rw [h, decide_eq_false hn]; exact ⟨rfl, rfl⟩
theorem parse_good {bs : List UInt8} (hn : bs ≠ [110, 111, 110, 101]) (h : okB bs = true) : parseS bs = vals bs ∧ parseSok bs = true := by
  unfold parseS parseSok; rw [h, decide_eq_false hn]; exact ⟨rfl, rfl⟩
theorem okB_bad {bs : List UInt8} {i : Nat} (hi : i < bs.length) (h : okAt (vals bs) i = false) : okB bs = false := by
  unfold okB; rw [are_false (by rw [vals_length]; exact hi) h, Bool.and_false]
end Go.Proofs.YtmojigimlhjphaaDoor.kit
