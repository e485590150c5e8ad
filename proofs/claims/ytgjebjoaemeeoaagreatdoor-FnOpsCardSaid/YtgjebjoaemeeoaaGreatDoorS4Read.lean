/-
  Chapter 4: what spec's and impl's IsValidMachine, ReadObject and SessionOf return at a machine of the caller's own.
-/
import Derived.Test.YtgjebjoaemeeoaaGreatDoorS4Valid
namespace Go.Proofs.YtgjebjoaemeeoaaGreatDoor.kit
open Go.ChangeShapes Go.WideShapes Go.ChangeAt Go.RowKit Go.Sort
set_option linter.unusedVariables false

theorem specIsValidMachine (b1 b2 : Nat) (v1 v2 : Value) (L1 : List Int) (L2 : List Sess) (w : World) (h1 : L1.length ≤ 4194304) (h2 : L2.length ≤ 4194304) (o1 : OwnI b1 w v1 L1) (o2 : OwnS b2 w v2 L2) :
    Calls Tryz.prog 20 #[.agg #[v1, v2]] w fun e w' => e = .returned (.bool (decide (MOk L1 L2))) ∧ Below w.heap.size w w' := by
  obtain ⟨a1, c1, rfl, _, _, t1, _⟩ := o1.form
  obtain ⟨a2, c2, rfl, _, _, t2, _⟩ := o2.form
  exact specIsValidMachineA a1 c1 L1 a2 c2 L2 w h1 h2 t1 t2
theorem implIsValidMachine (b1 b2 : Nat) (v1 v2 : Value) (L1 : List Int) (L2 : List Sess) (w : World) (h1 : L1.length ≤ 4194304) (h2 : L2.length ≤ 4194304) (o1 : OwnI b1 w v1 L1) (o2 : OwnS b2 w v2 L2) :
    Calls Tryz.prog 47 #[.agg #[v1, v2]] w fun e w' => e = .returned (.bool (decide (MOk L1 L2))) ∧ Below w.heap.size w w' := by
  obtain ⟨a1, c1, rfl, _, _, t1, _⟩ := o1.form
  obtain ⟨a2, c2, rfl, _, _, t2, _⟩ := o2.form
  exact implIsValidMachineA a1 c1 L1 a2 c2 L2 w h1 h2 t1 t2
theorem specObj (o : Int) (w : World) : Calls Tryz.prog 53 #[.int .i64 o, .int .i64 0, .int .i64 2] w fun e w' => e = .returned (.bool (okC o)) ∧ w = w' := in_c o 0 2 w
theorem implObj (o : Int) (w : World) : Calls Tryz.prog 159 #[.int .i64 o] w fun e w' => e = .returned (.bool (okC o)) ∧ w = w' := isObject_c o w
theorem readOk_false {L1 : List Int} {L2 : List Sess} {o : Int} (h : decide (MOk L1 L2) = false ∨ okC o = false) : readOk L1 L2 o = false := by
  unfold readOk
  rcases h with h | h
  · rw [h]; rfl
  · unfold okC at h; rw [h, Bool.and_false]
theorem readOk_true {L1 : List Int} {L2 : List Sess} {o : Int} (h : decide (MOk L1 L2) = true) (h2 : okC o = true) : readOk L1 L2 o = true := by
  unfold readOk; unfold okC at h2; rw [h, h2]; rfl
end Go.Proofs.YtgjebjoaemeeoaaGreatDoor.kit
