/-
  Chapter 8: EqualConfigs of both.
-/
import Derived.Test.YtgjebjoaemeeoaaConf
import Derived.Test.YtgjebjoaemeeoaaS2Plain
namespace Go.Proofs.Ytgjebjoaemeeoaa.kit
open Go.ChangeShapes Go.WideShapes Go.ChangeAt Go.RowKit
set_option linter.unusedVariables false
set_option linter.unusedSimpArgs false

set_option maxRecDepth 100000 in
set_option maxHeartbeats 2000000 in
theorem specEqualConfigs (x1 y1 : Int) (b1 b2 : Nat) (v1 v2 : Value) (L1 L2 : List Int) (x2 y2 : Int) (b3 b4 : Nat) (v3 v4 : Value) (M1 M2 : List Int) (w : World) (h1 : L1.length ≤ 4194304) (h2 : L2.length ≤ 4194304) (o1 : OwnI b1 w v1 L1) (o2 : OwnI b2 w v2 L2)
    (k1 : M1.length ≤ 4194304) (k2 : M2.length ≤ 4194304) (o3 : OwnI b3 w v3 M1) (o4 : OwnI b4 w v4 M2) :
    Calls Try.prog 42 #[.agg #[.int .i64 x1, .int .i64 y1, v1, v2], .agg #[.int .i64 x2, .int .i64 y2, v3, v4]] w fun e w' => e = .returned (.bool (decide (x1 = x2 ∧ y1 = y2 ∧ L1 = M1 ∧ L2 = M2))) ∧ Below w.heap.size w w' := by
  obtain ⟨W, hW⟩ : ∃ W, W = (w.alloc (.cells #[.int .i64 x1, .int .i64 y1, v1, v2] 26)).alloc (.cells #[.int .i64 x2, .int .i64 y2, v3, v4] 26) := ⟨_, rfl⟩
  have hB : Below w.heap.size w W := by rw [hW]; exact ((Below.refl _ _).alloc (Nat.le_refl _) _).alloc (by simp) _
  have HC := Lib.hid (show BoxC W w.heap.size 26 #[.int .i64 x1, .int .i64 y1, v1, v2] by rw [hW]; exact (BoxC.new _ _ _).later ((Below.refl _ _).alloc (Nat.le_refl _) _))
  have HR := Lib.hid (show BoxC W (w.heap.size + 1) 26 #[.int .i64 x2, .int .i64 y2, v3, v4] by
    rw [hW]
    have h := BoxC.new (w.alloc (.cells #[.int .i64 x1, .int .i64 y1, v1, v2] 26)) 26 #[.int .i64 x2, .int .i64 y2, v3, v4]
    rwa [World.size_alloc] at h)
  have HB := Lib.hid hB
  have HW := Lib.hid hW
  have J1 := Lib.hid (specEqualServers b1 v1 L1 b3 v3 M1 W h1 (o1.later hB) k1 (o3.later hB))
  have J2 := Lib.hid (fun W' (h : Below w.heap.size w W') => specEqualServers b2 v2 L2 b4 v4 M2 W' h2 (o2.later h) k2 (o4.later h))
  have HE := Lib.hid (show decide (x1 = x2 ∧ y1 = y2 ∧ L1 = M1 ∧ L2 = M2) = (decide (x1 = x2) && (decide (y1 = y2) && (decide (L1 = M1) && decide (L2 = M2)))) by simp)
  obtain ⟨z1, q1, rfl⟩ := o1.shape
  obtain ⟨z2, q2, rfl⟩ := o2.shape
  obtain ⟨z3, q3, rfl⟩ := o3.shape
  obtain ⟨z4, q4, rfl⟩ := o4.shape
  clear hB hW o1 o2 o3 o4
  generalize decide (x1 = x2 ∧ y1 = y2 ∧ L1 = M1 ∧ L2 = M2) = R at *
  have c0 := HC.out.c 0 rfl
  have c1 := HC.out.c 1 rfl
  have c2 := HC.out.c 2 rfl
  have c3 := HC.out.c 3 rfl
  have r0 := HR.out.c 0 rfl
  have r1 := HR.out.c 1 rfl
  have r2 := HR.out.c 2 rfl
  have r3 := HR.out.c 3 rfl
  go_enter Try.func42, Try.ntmps42
  by_cases e1 : x1 = x2
  · rw [decide_eq_true e1, Bool.true_and] at HE
    have g1 : (x1 == x2) = true := by rw [e1]; simp
    clear e1
    by_cases e2 : y1 = y2
    · rw [decide_eq_true e2, Bool.true_and] at HE
      have g2 : (y1 == y2) = true := by rw [e2]; simp
      clear e2
      go_wp2_with fail
      rw [← HW.out]
      have j1 := J1.out
      generalize decide (L1 = M1) = p at *
      go_wp2_with fail
      refine j1.mono ?_
      rintro e w1 ⟨rfl, hb⟩
      replace HC := Lib.hid (HC.out.later hb)
      replace HR := Lib.hid (HR.out.later hb)
      replace HB := Lib.hid (HB.out.trans (hb.mono HB.out.size))
      clear hb j1 J1 HW c0 c1 c2 c3 r0 r1 r2 r3
      have c0 := HC.out.c 0 rfl
      have c1 := HC.out.c 1 rfl
      have c2 := HC.out.c 2 rfl
      have c3 := HC.out.c 3 rfl
      have r0 := HR.out.c 0 rfl
      have r1 := HR.out.c 1 rfl
      have r2 := HR.out.c 2 rfl
      have r3 := HR.out.c 3 rfl
      cases p with
      | false =>
        rw [Bool.false_and] at HE
        clear J2
        go_wp2_with fail
        go_ret
        exact ⟨by rw [HE.out]; rfl, HB.out⟩
      | true =>
        rw [Bool.true_and] at HE
        go_wp2_with fail
        have j2 := J2.out _ HB.out
        generalize decide (L2 = M2) = p at *
        refine j2.mono ?_
        rintro e w2 ⟨rfl, hb⟩
        replace HB := Lib.hid (HB.out.trans (hb.mono HB.out.size))
        clear hb j2 J2 c0 c1 c2 c3 r0 r1 r2 r3
        go_wp2_with fail
        go_ret
        exact ⟨by rw [HE.out]; rfl, HB.out⟩
    · rw [decide_eq_false e2, Bool.false_and] at HE
      have g2 : (y1 == y2) = false := by rw [beq_eq_false_iff_ne]; exact e2
      clear e2 J1 J2
      go_wp2_with fail
      rw [← HW.out]
      clear HW
      go_wp2_with fail
      go_ret
      exact ⟨by rw [HE.out]; rfl, HB.out⟩
  · rw [decide_eq_false e1, Bool.false_and] at HE
    have g1 : (x1 == x2) = false := by rw [beq_eq_false_iff_ne]; exact e1
    clear e1 J1 J2
    go_wp2_with fail
    rw [← HW.out]
    clear HW
    go_wp2_with fail
    go_ret
    exact ⟨by rw [HE.out]; rfl, HB.out⟩
set_option maxRecDepth 100000 in
set_option maxHeartbeats 2000000 in
theorem implEqualConfigs (x1 y1 : Int) (b1 b2 : Nat) (v1 v2 : Value) (L1 L2 : List Int) (x2 y2 : Int) (b3 b4 : Nat) (v3 v4 : Value) (M1 M2 : List Int) (w : World) (h1 : L1.length ≤ 4194304) (h2 : L2.length ≤ 4194304) (o1 : OwnI b1 w v1 L1) (o2 : OwnI b2 w v2 L2)
    (k1 : M1.length ≤ 4194304) (k2 : M2.length ≤ 4194304) (o3 : OwnI b3 w v3 M1) (o4 : OwnI b4 w v4 M2) :
    Calls Try.prog 16 #[.agg #[.int .i64 x1, .int .i64 y1, v1, v2], .agg #[.int .i64 x2, .int .i64 y2, v3, v4]] w fun e w' => e = .returned (.bool (decide (x1 = x2 ∧ y1 = y2 ∧ L1 = M1 ∧ L2 = M2))) ∧ Below w.heap.size w w' := by
  obtain ⟨W, hW⟩ : ∃ W, W = (w.alloc (.cells #[.int .i64 x1, .int .i64 y1, v1, v2] 26)).alloc (.cells #[.int .i64 x2, .int .i64 y2, v3, v4] 26) := ⟨_, rfl⟩
  have hB : Below w.heap.size w W := by rw [hW]; exact ((Below.refl _ _).alloc (Nat.le_refl _) _).alloc (by simp) _
  have HC := Lib.hid (show BoxC W w.heap.size 26 #[.int .i64 x1, .int .i64 y1, v1, v2] by rw [hW]; exact (BoxC.new _ _ _).later ((Below.refl _ _).alloc (Nat.le_refl _) _))
  have HR := Lib.hid (show BoxC W (w.heap.size + 1) 26 #[.int .i64 x2, .int .i64 y2, v3, v4] by
    rw [hW]
    have h := BoxC.new (w.alloc (.cells #[.int .i64 x1, .int .i64 y1, v1, v2] 26)) 26 #[.int .i64 x2, .int .i64 y2, v3, v4]
    rwa [World.size_alloc] at h)
  have HB := Lib.hid hB
  have HW := Lib.hid hW
  have J1 := Lib.hid (implEqualServers b1 v1 L1 b3 v3 M1 W h1 (o1.later hB) k1 (o3.later hB))
  have J2 := Lib.hid (fun W' (h : Below w.heap.size w W') => implEqualServers b2 v2 L2 b4 v4 M2 W' h2 (o2.later h) k2 (o4.later h))
  have HE := Lib.hid (show decide (x1 = x2 ∧ y1 = y2 ∧ L1 = M1 ∧ L2 = M2) = (decide (x1 = x2) && (decide (y1 = y2) && (decide (L1 = M1) && decide (L2 = M2)))) by simp)
  obtain ⟨z1, q1, rfl⟩ := o1.shape
  obtain ⟨z2, q2, rfl⟩ := o2.shape
  obtain ⟨z3, q3, rfl⟩ := o3.shape
  obtain ⟨z4, q4, rfl⟩ := o4.shape
  clear hB hW o1 o2 o3 o4
  generalize decide (x1 = x2 ∧ y1 = y2 ∧ L1 = M1 ∧ L2 = M2) = R at *
  have c0 := HC.out.c 0 rfl
  have c1 := HC.out.c 1 rfl
  have c2 := HC.out.c 2 rfl
  have c3 := HC.out.c 3 rfl
  have r0 := HR.out.c 0 rfl
  have r1 := HR.out.c 1 rfl
  have r2 := HR.out.c 2 rfl
  have r3 := HR.out.c 3 rfl
  go_enter Try.func16, Try.ntmps16
  by_cases e1 : x1 = x2
  · rw [decide_eq_true e1, Bool.true_and] at HE
    have g1 : (x1 == x2) = true := by rw [e1]; simp
    clear e1
    by_cases e2 : y1 = y2
    · rw [decide_eq_true e2, Bool.true_and] at HE
      have g2 : (y1 == y2) = true := by rw [e2]; simp
      clear e2
      go_wp2_with fail
      rw [← HW.out]
      have j1 := J1.out
      generalize decide (L1 = M1) = p at *
      go_wp2_with fail
      refine j1.mono ?_
      rintro e w1 ⟨rfl, hb⟩
      replace HC := Lib.hid (HC.out.later hb)
      replace HR := Lib.hid (HR.out.later hb)
      replace HB := Lib.hid (HB.out.trans (hb.mono HB.out.size))
      clear hb j1 J1 HW c0 c1 c2 c3 r0 r1 r2 r3
      have c0 := HC.out.c 0 rfl
      have c1 := HC.out.c 1 rfl
      have c2 := HC.out.c 2 rfl
      have c3 := HC.out.c 3 rfl
      have r0 := HR.out.c 0 rfl
      have r1 := HR.out.c 1 rfl
      have r2 := HR.out.c 2 rfl
      have r3 := HR.out.c 3 rfl
      cases p with
      | false =>
        rw [Bool.false_and] at HE
        clear J2
        go_wp2_with fail
        go_ret
        exact ⟨by rw [HE.out]; rfl, HB.out⟩
      | true =>
        rw [Bool.true_and] at HE
        go_wp2_with fail
        have j2 := J2.out _ HB.out
        generalize decide (L2 = M2) = p at *
        refine j2.mono ?_
        rintro e w2 ⟨rfl, hb⟩
        replace HB := Lib.hid (HB.out.trans (hb.mono HB.out.size))
        clear hb j2 J2 c0 c1 c2 c3 r0 r1 r2 r3
        go_wp2_with fail
        go_ret
        exact ⟨by rw [HE.out]; rfl, HB.out⟩
    · rw [decide_eq_false e2, Bool.false_and] at HE
      have g2 : (y1 == y2) = false := by rw [beq_eq_false_iff_ne]; exact e2
      clear e2 J1 J2
      go_wp2_with fail
      rw [← HW.out]
      clear HW
      go_wp2_with fail
      go_ret
      exact ⟨by rw [HE.out]; rfl, HB.out⟩
  · rw [decide_eq_false e1, Bool.false_and] at HE
    have g1 : (x1 == x2) = false := by rw [beq_eq_false_iff_ne]; exact e1
    clear e1 J1 J2
    go_wp2_with fail
    rw [← HW.out]
    clear HW
    go_wp2_with fail
    go_ret
    exact ⟨by rw [HE.out]; rfl, HB.out⟩
end Go.Proofs.Ytgjebjoaemeeoaa.kit
