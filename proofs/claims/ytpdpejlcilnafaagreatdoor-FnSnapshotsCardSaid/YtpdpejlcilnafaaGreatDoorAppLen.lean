/-
  Chapter 4: how long the lists of the machine are that ApplyOp returns.
-/
import Derived.Test.YtpdpejlcilnafaaGreatDoorS4SpecD
namespace Go.Proofs.YtpdpejlcilnafaaGreatDoor.kit
open Go.ChangeShapes Go.WideShapes Go.ChangeAt Go.RowKit Go.Maps
set_option linter.unusedVariables false
theorem insR_len : ∀ (l : List Sess) (x : Sess), (insR l x).length ≤ l.length + 1
  | [], x => by simp [insR]
  | y :: l, x => by
    have := insR_len l x
    unfold insR
    split
    · rw [List.length_cons, List.length_cons]; omega
    · split <;> simp <;> omega
theorem appO_len (L1 : List Int) (L2 : List Sess) (c s k o d v : Int) (h : L1.length ≤ 4194304) : (appO L1 L2 c s k o d v).length ≤ 4194304 := by
  unfold appO
  cases appNew L1 L2 c s k o d v with
  | false => simpa using h
  | true =>
    rw [if_pos rfl]
    unfold setO
    split
    · rw [List.length_set]; exact h
    · exact h
theorem appS_len (L1 : List Int) (L2 : List Sess) (c s k o d v : Int) (h : L2.length ≤ 4194304) : (appS L1 L2 c s k o d v).length ≤ 4194304 := by
  unfold appS
  cases hn : appNew L1 L2 c s k o d v with
  | false => simpa using h
  | true =>
    have hok : appOk L1 L2 c s k o d v = true := by unfold appNew at hn; simp only [Bool.and_eq_true] at hn; exact hn.1
    have hM : MOk L1 L2 := by unfold appOk at hok; simp only [Bool.and_eq_true] at hok; exact of_decide_eq_true hok.1
    have hl := (sess_short hM.2.2).1
    rw [if_pos rfl]
    have := insR_len L2 (c, s, doneO k d (L1.getD o.toNat 0), L1.getD o.toNat 0)
    omega
end Go.Proofs.YtpdpejlcilnafaaGreatDoor.kit
