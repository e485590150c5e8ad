/-
  Chapter 7: what spec's and impl's EqualSnapshots return.
-/
import Derived.Test.YtkkgonkpmdlelabSnap
import Derived.Test.YtkkgonkpmdlelabS4Equal
import Derived.Test.YtkkgonkpmdlelabLater
namespace Go.Proofs.Ytkkgonkpmdlelab.kit
open Go.ChangeShapes Go.WideShapes Go.ChangeAt Go.RowKit
set_option linter.unusedVariables false

set_option maxRecDepth 100000 in
theorem specEqualSnapshots (x1 y1 : Int) (b1 b2 : Nat) (v1 v2 : Value) (L1 : List Int) (L2 : List Sess) (x2 y2 : Int) (b3 b4 : Nat) (v3 v4 : Value) (M1 : List Int) (M2 : List Sess) (w : World) (h1 : L1.length ≤ 4194304) (h2 : L2.length ≤ 4194304) (o1 : OwnI b1 w v1 L1) (o2 : OwnS b2 w v2 L2)
    (k1 : M1.length ≤ 4194304) (k2 : M2.length ≤ 4194304) (o3 : OwnI b3 w v3 M1) (o4 : OwnS b4 w v4 M2) :
    Calls Try.prog 5 #[.agg #[.int .i64 x1, .int .i64 y1, v1, v2], .agg #[.int .i64 x2, .int .i64 y2, v3, v4]] w fun e w' => e = .returned (.bool (decide (x1 = x2 ∧ y1 = y2 ∧ L1 = M1 ∧ L2 = M2))) ∧ Below w.heap.size w w' := by
  have hB : Below w.heap.size w ((w.alloc (.cells #[.int .i64 x1, .int .i64 y1, v1, v2] 34)).alloc (.cells #[.int .i64 x2, .int .i64 y2, v3, v4] 34)) := by go_grown
  have j := specEqualMachines b1 b2 v1 v2 L1 L2 b3 b4 v3 v4 M1 M2 _ h1 h2 (o1.later hB) (o2.later hB) k1 k2 (o3.later hB) (o4.later hB)
  obtain ⟨a1, c1, rfl⟩ := o1.shape
  obtain ⟨a2, c2, rfl⟩ := o2.shape
  obtain ⟨a3, c3, rfl⟩ := o3.shape
  obtain ⟨a4, c4, rfl⟩ := o4.shape
  have HB := Lib.hid hB
  clear o1 o2 o3 o4 hB
  by_cases e1 : x1 = x2
  · have g1 : (x1 == x2) = true := by rw [e1]; simp
    by_cases e2 : y1 = y2
    · have g2 : (y1 == y2) = true := by rw [e2]; simp
      have HE := Lib.hid (show decide (x1 = x2 ∧ y1 = y2 ∧ L1 = M1 ∧ L2 = M2) = decide (L1 = M1 ∧ L2 = M2) by rw [e1, e2]; simp)
      generalize decide (L1 = M1 ∧ L2 = M2) = q at *
      clear e1 e2
      go_enter Try.func5, Try.ntmps5
      go_wp2_with fail
      refine j.mono ?_
      rintro e w1 ⟨rfl, hb⟩
      go_wp2_with fail
      go_ret
      exact ⟨by rw [HE.out]; rfl, HB.out.trans (hb.mono HB.out.size)⟩
    · have g2 : (y1 == y2) = false := by rw [beq_eq_false_iff_ne]; exact e2
      have HE := Lib.hid (show decide (x1 = x2 ∧ y1 = y2 ∧ L1 = M1 ∧ L2 = M2) = false from decide_eq_false (fun h => e2 h.2.1))
      clear e1 e2 j
      go_enter Try.func5, Try.ntmps5
      go_wp2_with fail
      go_ret
      exact ⟨by rw [HE.out]; rfl, HB.out⟩
  · have g1 : (x1 == x2) = false := by rw [beq_eq_false_iff_ne]; exact e1
    have HE := Lib.hid (show decide (x1 = x2 ∧ y1 = y2 ∧ L1 = M1 ∧ L2 = M2) = false from decide_eq_false (fun h => e1 h.1))
    clear e1 j
    go_enter Try.func5, Try.ntmps5
    go_wp2_with fail
    go_ret
    exact ⟨by rw [HE.out]; rfl, HB.out⟩
set_option maxRecDepth 100000 in
theorem implEqualSnapshots (x1 y1 : Int) (b1 b2 : Nat) (v1 v2 : Value) (L1 : List Int) (L2 : List Sess) (x2 y2 : Int) (b3 b4 : Nat) (v3 v4 : Value) (M1 : List Int) (M2 : List Sess) (w : World) (h1 : L1.length ≤ 4194304) (h2 : L2.length ≤ 4194304) (o1 : OwnI b1 w v1 L1) (o2 : OwnS b2 w v2 L2)
    (k1 : M1.length ≤ 4194304) (k2 : M2.length ≤ 4194304) (o3 : OwnI b3 w v3 M1) (o4 : OwnS b4 w v4 M2) :
    Calls Try.prog 7 #[.agg #[.int .i64 x1, .int .i64 y1, v1, v2], .agg #[.int .i64 x2, .int .i64 y2, v3, v4]] w fun e w' => e = .returned (.bool (decide (x1 = x2 ∧ y1 = y2 ∧ L1 = M1 ∧ L2 = M2))) ∧ Below w.heap.size w w' := by
  have hB : Below w.heap.size w ((w.alloc (.cells #[.int .i64 x1, .int .i64 y1, v1, v2] 34)).alloc (.cells #[.int .i64 x2, .int .i64 y2, v3, v4] 34)) := by go_grown
  have j := implEqualMachines b1 b2 v1 v2 L1 L2 b3 b4 v3 v4 M1 M2 _ h1 h2 (o1.later hB) (o2.later hB) k1 k2 (o3.later hB) (o4.later hB)
  obtain ⟨a1, c1, rfl⟩ := o1.shape
  obtain ⟨a2, c2, rfl⟩ := o2.shape
  obtain ⟨a3, c3, rfl⟩ := o3.shape
  obtain ⟨a4, c4, rfl⟩ := o4.shape
  have HB := Lib.hid hB
  clear o1 o2 o3 o4 hB
  by_cases e1 : x1 = x2
  · have g1 : (x1 == x2) = true := by rw [e1]; simp
    by_cases e2 : y1 = y2
    · have g2 : (y1 == y2) = true := by rw [e2]; simp
      have HE := Lib.hid (show decide (x1 = x2 ∧ y1 = y2 ∧ L1 = M1 ∧ L2 = M2) = decide (L1 = M1 ∧ L2 = M2) by rw [e1, e2]; simp)
      generalize decide (L1 = M1 ∧ L2 = M2) = q at *
      clear e1 e2
      go_enter Try.func7, Try.ntmps7
      go_wp2_with fail
      refine j.mono ?_
      rintro e w1 ⟨rfl, hb⟩
      go_wp2_with fail
      go_ret
      exact ⟨by rw [HE.out]; rfl, HB.out.trans (hb.mono HB.out.size)⟩
    · have g2 : (y1 == y2) = false := by rw [beq_eq_false_iff_ne]; exact e2
      have HE := Lib.hid (show decide (x1 = x2 ∧ y1 = y2 ∧ L1 = M1 ∧ L2 = M2) = false from decide_eq_false (fun h => e2 h.2.1))
      clear e1 e2 j
      go_enter Try.func7, Try.ntmps7
      go_wp2_with fail
      go_ret
      exact ⟨by rw [HE.out]; rfl, HB.out⟩
  · have g1 : (x1 == x2) = false := by rw [beq_eq_false_iff_ne]; exact e1
    have HE := Lib.hid (show decide (x1 = x2 ∧ y1 = y2 ∧ L1 = M1 ∧ L2 = M2) = false from decide_eq_false (fun h => e1 h.1))
    clear e1 j
    go_enter Try.func7, Try.ntmps7
    go_wp2_with fail
    go_ret
    exact ⟨by rw [HE.out]; rfl, HB.out⟩
end Go.Proofs.Ytkkgonkpmdlelab.kit
