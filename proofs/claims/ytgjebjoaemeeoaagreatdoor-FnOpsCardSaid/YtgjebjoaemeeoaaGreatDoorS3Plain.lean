/-
  Chapter 3, operations: what spec's and impl's IsValidOp and IsNewFormat return, for every six ints.
-/
import Derived.Test.YtgjebjoaemeeoaaGreatDoorC1Fixed
import Derived.Test.YtgjebjoaemeeoaaGreatDoorStructs
import Derived.Handy
import Derived.OwnWalk
namespace Go.Proofs.YtgjebjoaemeeoaaGreatDoor.kit
open Go.ChangeShapes Go.WideShapes Go.ChangeAt Go.RowKit
set_option linter.unusedVariables false

/-- an operation's value: Client, Seq, Kind, Object, Old, Value -/
abbrev opV (c s k o d v : Int) : Value := .agg #[.int .i64 c, .int .i64 s, .int .i64 k, .int .i64 o, .int .i64 d, .int .i64 v]
def okC (c : Int) : Bool := decide (0 ≤ c ∧ c ≤ 2)
def okS (s : Int) : Bool := decide (1 ≤ s ∧ s ≤ 99)
def okV (v : Int) : Bool := decide (0 ≤ v ∧ v ≤ 9)
def okOp (c s k o d v : Int) : Bool := okC c && okS s && okC o && okV v && ((k == 1 && d == 0) || (k == 2 && okV d))

def newOp (c s k o d v : Int) : Bool := k == 2


theorem in_c (x a b : Int) (w : World) : Calls Tryz.prog 53 #[.int .i64 x, .int .i64 a, .int .i64 b] w fun e w' => e = .returned (.bool (decide (a ≤ x ∧ x ≤ b))) ∧ w = w' := by
  by_cases h1 : a ≤ x
  · by_cases h2 : x ≤ b
    · rw [decide_eq_true ⟨h1, h2⟩]; exact in_true x a b w h1 h2
    · rw [decide_eq_false (by omega)]; exact in_false x a b w (by omega)
  · rw [decide_eq_false (by omega)]; exact in_false x a b w (by omega)

set_option maxRecDepth 100000 in
set_option maxHeartbeats 4000000 in
theorem specIsValidOp (c s k o d v : Int) (w : World) : Calls Tryz.prog 17 #[opV c s k o d v] w fun e w' => e = .returned (.bool (okOp c s k o d v)) ∧ Below w.heap.size w w' := by
  unfold okOp okC okS okV opV
  generalize hc : decide (0 ≤ c ∧ c ≤ 2) = bc
  generalize hs : decide (1 ≤ s ∧ s ≤ 99) = bs
  generalize ho : decide (0 ≤ o ∧ o ≤ 2) = bo
  generalize hv : decide (0 ≤ v ∧ v ≤ 9) = bv
  generalize hd : decide (0 ≤ d ∧ d ≤ 9) = bd
  generalize hk1 : (k == 1) = k1
  generalize hk2 : (k == 2) = k2
  generalize hd0 : (d == 0) = d0
  have Hc := Lib.hid hc
  have Hs := Lib.hid hs
  have Ho := Lib.hid ho
  have Hv := Lib.hid hv
  have Hd := Lib.hid hd
  clear hc hs ho hv hd
  cases bc
  · skip
    go_enter Tryz.func17, Tryz.ntmps17
    go_wp2_with (go_at_call 53; refine (in_c _ _ _ _).mono ?_; rintro e w1 ⟨he, rfl⟩; (first | rw [Hc.out] at he | rw [Hs.out] at he | rw [Ho.out] at he | rw [Hv.out] at he | rw [Hd.out] at he); subst he)
    go_ret
    exact ⟨rfl, by go_grown⟩
  cases bs
  · skip
    go_enter Tryz.func17, Tryz.ntmps17
    go_wp2_with (go_at_call 53; refine (in_c _ _ _ _).mono ?_; rintro e w1 ⟨he, rfl⟩; (first | rw [Hc.out] at he | rw [Hs.out] at he | rw [Ho.out] at he | rw [Hv.out] at he | rw [Hd.out] at he); subst he)
    go_ret
    exact ⟨rfl, by go_grown⟩
  cases bo
  · skip
    go_enter Tryz.func17, Tryz.ntmps17
    go_wp2_with (go_at_call 53; refine (in_c _ _ _ _).mono ?_; rintro e w1 ⟨he, rfl⟩; (first | rw [Hc.out] at he | rw [Hs.out] at he | rw [Ho.out] at he | rw [Hv.out] at he | rw [Hd.out] at he); subst he)
    go_ret
    exact ⟨rfl, by go_grown⟩
  cases bv
  · skip
    go_enter Tryz.func17, Tryz.ntmps17
    go_wp2_with (go_at_call 53; refine (in_c _ _ _ _).mono ?_; rintro e w1 ⟨he, rfl⟩; (first | rw [Hc.out] at he | rw [Hs.out] at he | rw [Ho.out] at he | rw [Hv.out] at he | rw [Hd.out] at he); subst he)
    go_ret
    exact ⟨rfl, by go_grown⟩
  cases k1
  · cases k2
    · skip
      go_enter Tryz.func17, Tryz.ntmps17
      go_wp2_with (go_at_call 53; refine (in_c _ _ _ _).mono ?_; rintro e w1 ⟨he, rfl⟩; (first | rw [Hc.out] at he | rw [Hs.out] at he | rw [Ho.out] at he | rw [Hv.out] at he | rw [Hd.out] at he); subst he)
      go_ret
      exact ⟨rfl, by go_grown⟩
    cases bd
    · skip
      go_enter Tryz.func17, Tryz.ntmps17
      go_wp2_with (go_at_call 53; refine (in_c _ _ _ _).mono ?_; rintro e w1 ⟨he, rfl⟩; (first | rw [Hc.out] at he | rw [Hs.out] at he | rw [Ho.out] at he | rw [Hv.out] at he | rw [Hd.out] at he); subst he)
      go_ret
      exact ⟨rfl, by go_grown⟩
    · skip
      go_enter Tryz.func17, Tryz.ntmps17
      go_wp2_with (go_at_call 53; refine (in_c _ _ _ _).mono ?_; rintro e w1 ⟨he, rfl⟩; (first | rw [Hc.out] at he | rw [Hs.out] at he | rw [Ho.out] at he | rw [Hv.out] at he | rw [Hd.out] at he); subst he)
      go_ret
      exact ⟨rfl, by go_grown⟩
  · cases d0
    · cases k2
      · skip
        go_enter Tryz.func17, Tryz.ntmps17
        go_wp2_with (go_at_call 53; refine (in_c _ _ _ _).mono ?_; rintro e w1 ⟨he, rfl⟩; (first | rw [Hc.out] at he | rw [Hs.out] at he | rw [Ho.out] at he | rw [Hv.out] at he | rw [Hd.out] at he); subst he)
        go_ret
        exact ⟨rfl, by go_grown⟩
      cases bd
      · skip
        go_enter Tryz.func17, Tryz.ntmps17
        go_wp2_with (go_at_call 53; refine (in_c _ _ _ _).mono ?_; rintro e w1 ⟨he, rfl⟩; (first | rw [Hc.out] at he | rw [Hs.out] at he | rw [Ho.out] at he | rw [Hv.out] at he | rw [Hd.out] at he); subst he)
        go_ret
        exact ⟨rfl, by go_grown⟩
      · skip
        go_enter Tryz.func17, Tryz.ntmps17
        go_wp2_with (go_at_call 53; refine (in_c _ _ _ _).mono ?_; rintro e w1 ⟨he, rfl⟩; (first | rw [Hc.out] at he | rw [Hs.out] at he | rw [Ho.out] at he | rw [Hv.out] at he | rw [Hd.out] at he); subst he)
        go_ret
        exact ⟨rfl, by go_grown⟩
    · skip
      go_enter Tryz.func17, Tryz.ntmps17
      go_wp2_with (go_at_call 53; refine (in_c _ _ _ _).mono ?_; rintro e w1 ⟨he, rfl⟩; (first | rw [Hc.out] at he | rw [Hs.out] at he | rw [Ho.out] at he | rw [Hv.out] at he | rw [Hd.out] at he); subst he)
      go_ret
      exact ⟨rfl, by go_grown⟩
end Go.Proofs.YtgjebjoaemeeoaaGreatDoor.kit
