/-
  Chapter 10: IsValidAcceptor, EqualAcceptors of both sides.
-/
import Derived.Test.YtgjebjoaemeeoaaS10Math
import Derived.Test.YtgjebjoaemeeoaaS8Equal
import Derived.Test.YtgjebjoaemeeoaaS8Spec
import Derived.Test.YtgjebjoaemeeoaaS8Impl
namespace Go.Proofs.Ytgjebjoaemeeoaa.kit
open Go.ChangeShapes Go.WideShapes Go.ChangeAt Go.RowKit
set_option linter.unusedVariables false
set_option linter.unusedSimpArgs false

theorem nilI (b : Nat) (W : World) : OwnI b W (.slice none 0 0) [] := World.ownsRow_nil _ _ _ _
set_option maxRecDepth 100000 in
set_option maxHeartbeats 4000000 in
theorem specIsValidAcceptor (x y s t : Int) (b1 b2 : Nat) (v1 v2 : Value) (L1 L2 : List Int) (w : World) (h1 : L1.length ≤ 1048576) (h2 : L2.length ≤ 1048576) (o1 : OwnI b1 w v1 L1) (o2 : OwnI b2 w v2 L2) :
    Calls Try.prog 18 #[.agg #[.int .i64 x, .int .i64 y, .int .i64 s, .int .i64 t, v1, v2]] w fun e w' => e = .returned (.bool (accOk x y s t L1 L2)) ∧ Below w.heap.size w w' := by
  obtain ⟨W, hW⟩ : ∃ W, W = w.alloc (.cells #[.int .i64 x, .int .i64 y, .int .i64 s, .int .i64 t, v1, v2] 28) := ⟨_, rfl⟩
  have hB : Below w.heap.size w W := by rw [hW]; exact (Below.refl _ _).alloc (Nat.le_refl _) _
  have HC := Lib.hid (show BoxC W w.heap.size 28 #[.int .i64 x, .int .i64 y, .int .i64 s, .int .i64 t, v1, v2] by rw [hW]; exact BoxC.new _ _ _)
  have HB := Lib.hid hB
  have HW := Lib.hid hW
  have HP := Lib.hid (show accOk x y s t L1 L2 = (decide (0 ≤ x ∧ x ≤ 99) && (decide (0 ≤ y ∧ y ≤ x) && valOk y s t L1 L2)) from rfl)
  have HV0 := Lib.hid (fun h : y = 0 => (show valOk y s t L1 L2 = decide (s = 0 ∧ t = 0 ∧ L1 = [] ∧ L2 = []) from if_pos h))
  have HV1 := Lib.hid (fun h : ¬ y = 0 => (show valOk y s t L1 L2 = cfgOk s t L1 L2 from if_neg h))
  obtain ⟨y1, q1, rfl⟩ := o1.shape
  obtain ⟨y2, q2, rfl⟩ := o2.shape
  have J1 := Lib.hid (specEqualConfigs s t b1 b2 _ _ L1 L2 0 0 0 0 (.slice none 0 0) (.slice none 0 0) [] [] W (by omega) (by omega) (o1.later hB) (o2.later hB) (by simp) (by simp) (nilI _ _) (nilI _ _))
  have J2 := Lib.hid (specIsValidConfig s t b1 b2 _ _ L1 L2 W h1 h2 (o1.later hB) (o2.later hB))
  clear hB hW o1 o2
  generalize accOk x y s t L1 L2 = R at *
  have c0 := HC.out.c 0 rfl
  have c1 := HC.out.c 1 rfl
  have c2 := HC.out.c 2 rfl
  have c3 := HC.out.c 3 rfl
  have c4 := HC.out.c 4 rfl
  have c5 := HC.out.c 5 rfl
  by_cases hx : 0 ≤ x ∧ x ≤ 99
  · rw [decide_eq_true hx, Bool.true_and] at HP
    have HX := Lib.hid (fun W => in_true x 0 99 W hx.1 hx.2)
    clear hx
    by_cases hy : 0 ≤ y ∧ y ≤ x
    · rw [decide_eq_true hy, Bool.true_and] at HP
      have HY := Lib.hid (fun W => in_true y 0 x W hy.1 hy.2)
      clear hy
      by_cases h0 : y = 0
      · rw [HV0.out h0] at HP
        have g0 : (y == 0) = true := by rw [beq_iff_eq]; exact h0
        have j := J1.out
        clear h0 HV0 HV1 J1 J2
        generalize decide (s = 0 ∧ t = 0 ∧ L1 = [] ∧ L2 = []) = r at *
        go_enter Try.func18, Try.ntmps18
        go_wp2_with fail
        rw [← HW.out]
        clear HW
        refine (HX.out _).mono ?_
        rintro e w1 ⟨rfl, rfl⟩
        go_wp2_with fail
        refine (HY.out _).mono ?_
        rintro e w1 ⟨rfl, rfl⟩
        go_wp2_with fail
        refine j.mono ?_
        rintro e w2 ⟨rfl, hb⟩
        replace HB := Lib.hid (HB.out.trans (hb.mono HB.out.size))
        clear hb j c0 c1 c2 c3 c4 c5
        go_wp2_with fail
        go_ret
        exact ⟨by rw [HP.out]; rfl, HB.out⟩
      · rw [HV1.out h0] at HP
        have g0 : (y == 0) = false := by rw [beq_eq_false_iff_ne]; exact h0
        have j := J2.out
        clear h0 HV0 HV1 J1 J2
        generalize cfgOk s t L1 L2 = r at *
        go_enter Try.func18, Try.ntmps18
        go_wp2_with fail
        rw [← HW.out]
        clear HW
        refine (HX.out _).mono ?_
        rintro e w1 ⟨rfl, rfl⟩
        go_wp2_with fail
        refine (HY.out _).mono ?_
        rintro e w1 ⟨rfl, rfl⟩
        go_wp2_with fail
        refine j.mono ?_
        rintro e w2 ⟨rfl, hb⟩
        replace HB := Lib.hid (HB.out.trans (hb.mono HB.out.size))
        clear hb j c0 c1 c2 c3 c4 c5
        go_wp2_with fail
        go_ret
        exact ⟨by rw [HP.out]; rfl, HB.out⟩
    · rw [decide_eq_false hy, Bool.false_and] at HP
      have HY := Lib.hid (fun W => in_false y 0 x W (by omega))
      clear hy J1 J2 HV0 HV1
      go_enter Try.func18, Try.ntmps18
      go_wp2_with fail
      rw [← HW.out]
      clear HW
      refine (HX.out _).mono ?_
      rintro e w1 ⟨rfl, rfl⟩
      go_wp2_with fail
      refine (HY.out _).mono ?_
      rintro e w1 ⟨rfl, rfl⟩
      go_wp2_with fail
      go_ret
      exact ⟨by rw [HP.out]; rfl, HB.out⟩
  · rw [decide_eq_false hx, Bool.false_and] at HP
    have HX := Lib.hid (fun W => in_false x 0 99 W (by omega))
    clear hx J1 J2 HV0 HV1
    go_enter Try.func18, Try.ntmps18
    go_wp2_with fail
    rw [← HW.out]
    clear HW
    refine (HX.out _).mono ?_
    rintro e w1 ⟨rfl, rfl⟩
    go_wp2_with fail
    go_ret
    exact ⟨by rw [HP.out]; rfl, HB.out⟩
set_option maxRecDepth 100000 in
set_option maxHeartbeats 4000000 in
theorem implIsValidAcceptor (x y s t : Int) (b1 b2 : Nat) (v1 v2 : Value) (L1 L2 : List Int) (w : World) (h1 : L1.length ≤ 4194304) (h2 : L2.length ≤ 4194304) (o1 : OwnI b1 w v1 L1) (o2 : OwnI b2 w v2 L2) :
    Calls Try.prog 17 #[.agg #[.int .i64 x, .int .i64 y, .int .i64 s, .int .i64 t, v1, v2]] w fun e w' => e = .returned (.bool (accOk x y s t L1 L2)) ∧ Below w.heap.size w w' := by
  obtain ⟨W, hW⟩ : ∃ W, W = w.alloc (.cells #[.int .i64 x, .int .i64 y, .int .i64 s, .int .i64 t, v1, v2] 28) := ⟨_, rfl⟩
  have hB : Below w.heap.size w W := by rw [hW]; exact (Below.refl _ _).alloc (Nat.le_refl _) _
  have HC := Lib.hid (show BoxC W w.heap.size 28 #[.int .i64 x, .int .i64 y, .int .i64 s, .int .i64 t, v1, v2] by rw [hW]; exact BoxC.new _ _ _)
  have HB := Lib.hid hB
  have HW := Lib.hid hW
  have HP := Lib.hid (show accOk x y s t L1 L2 = (decide (0 ≤ x ∧ x ≤ 99) && (decide (0 ≤ y ∧ y ≤ x) && valOk y s t L1 L2)) from rfl)
  have HV0 := Lib.hid (fun h : y = 0 => (show valOk y s t L1 L2 = decide (s = 0 ∧ t = 0 ∧ L1 = [] ∧ L2 = []) from if_pos h))
  have HV1 := Lib.hid (fun h : ¬ y = 0 => (show valOk y s t L1 L2 = cfgOk s t L1 L2 from if_neg h))
  obtain ⟨y1, q1, rfl⟩ := o1.shape
  obtain ⟨y2, q2, rfl⟩ := o2.shape
  have J1 := Lib.hid (implEqualConfigs s t b1 b2 _ _ L1 L2 0 0 0 0 (.slice none 0 0) (.slice none 0 0) [] [] W h1 h2 (o1.later hB) (o2.later hB) (by simp) (by simp) (nilI _ _) (nilI _ _))
  have J2 := Lib.hid (implIsValidConfig s t b1 b2 _ _ L1 L2 W h1 h2 (o1.later hB) (o2.later hB))
  clear hB hW o1 o2
  generalize accOk x y s t L1 L2 = R at *
  have c0 := HC.out.c 0 rfl
  have c1 := HC.out.c 1 rfl
  have c2 := HC.out.c 2 rfl
  have c3 := HC.out.c 3 rfl
  have c4 := HC.out.c 4 rfl
  have c5 := HC.out.c 5 rfl
  by_cases hx0 : x < 0
  · rw [decide_eq_false (by omega), Bool.false_and] at HP
    have e1 : decide (x < 0) = true := decide_eq_true hx0
    clear hx0
    clear J1 J2 HV0 HV1
    go_enter Try.func17, Try.ntmps17
    go_wp2_with fail
    rw [← HW.out]
    clear HW
    go_ret
    exact ⟨by rw [HP.out]; rfl, HB.out⟩
  · have e1 : decide (x < 0) = false := decide_eq_false hx0
    by_cases hx1 : 99 < x
    · rw [decide_eq_false (by omega), Bool.false_and] at HP
      have e2 : decide (99 < x) = true := decide_eq_true hx1
      clear hx0 hx1
      clear J1 J2 HV0 HV1
      go_enter Try.func17, Try.ntmps17
      go_wp2_with fail
      rw [← HW.out]
      clear HW
      go_ret
      exact ⟨by rw [HP.out]; rfl, HB.out⟩
    · have e2 : decide (99 < x) = false := decide_eq_false hx1
      rw [decide_eq_true (show 0 ≤ x ∧ x ≤ 99 by omega), Bool.true_and] at HP
      clear hx0 hx1
      by_cases hy0 : y < 0
      · rw [decide_eq_false (by omega), Bool.false_and] at HP
        have e3 : decide (y < 0) = true := decide_eq_true hy0
        clear hy0
        clear J1 J2 HV0 HV1
        go_enter Try.func17, Try.ntmps17
        go_wp2_with fail
        rw [← HW.out]
        clear HW
        go_ret
        exact ⟨by rw [HP.out]; rfl, HB.out⟩
      · have e3 : decide (y < 0) = false := decide_eq_false hy0
        by_cases hy1 : x < y
        · rw [decide_eq_false (by omega), Bool.false_and] at HP
          have e4 : decide (x < y) = true := decide_eq_true hy1
          clear hy0 hy1
          clear J1 J2 HV0 HV1
          go_enter Try.func17, Try.ntmps17
          go_wp2_with fail
          rw [← HW.out]
          clear HW
          go_ret
          exact ⟨by rw [HP.out]; rfl, HB.out⟩
        · have e4 : decide (x < y) = false := decide_eq_false hy1
          rw [decide_eq_true (show 0 ≤ y ∧ y ≤ x by omega), Bool.true_and] at HP
          clear hy0 hy1
          by_cases h0 : y = 0
          · rw [HV0.out h0] at HP
            have g0 : (y == 0) = true := by rw [beq_iff_eq]; exact h0
            have j := J1.out
            clear h0 HV0 HV1 J1 J2
            generalize decide (s = 0 ∧ t = 0 ∧ L1 = [] ∧ L2 = []) = r at *
            go_enter Try.func17, Try.ntmps17
            go_wp2_with fail
            rw [← HW.out]
            clear HW
            refine j.mono ?_
            rintro e w2 ⟨rfl, hb⟩
            replace HB := Lib.hid (HB.out.trans (hb.mono HB.out.size))
            clear hb j c0 c1 c2 c3 c4 c5
            go_wp2_with fail
            go_ret
            exact ⟨by rw [HP.out]; rfl, HB.out⟩
          · rw [HV1.out h0] at HP
            have g0 : (y == 0) = false := by rw [beq_eq_false_iff_ne]; exact h0
            have j := J2.out
            clear h0 HV0 HV1 J1 J2
            generalize cfgOk s t L1 L2 = r at *
            go_enter Try.func17, Try.ntmps17
            go_wp2_with fail
            rw [← HW.out]
            clear HW
            refine j.mono ?_
            rintro e w2 ⟨rfl, hb⟩
            replace HB := Lib.hid (HB.out.trans (hb.mono HB.out.size))
            clear hb j c0 c1 c2 c3 c4 c5
            go_wp2_with fail
            go_ret
            exact ⟨by rw [HP.out]; rfl, HB.out⟩
set_option maxRecDepth 100000 in
set_option maxHeartbeats 2000000 in
theorem specEqualAcceptors (x1 y1 s1 t1 : Int) (b1 b2 : Nat) (v1 v2 : Value) (L1 L2 : List Int) (x2 y2 s2 t2 : Int) (b3 b4 : Nat) (v3 v4 : Value) (M1 M2 : List Int) (w : World) (h1 : L1.length ≤ 4194304) (h2 : L2.length ≤ 4194304) (o1 : OwnI b1 w v1 L1) (o2 : OwnI b2 w v2 L2)
    (k1 : M1.length ≤ 4194304) (k2 : M2.length ≤ 4194304) (o3 : OwnI b3 w v3 M1) (o4 : OwnI b4 w v4 M2) :
    Calls Try.prog 28 #[.agg #[.int .i64 x1, .int .i64 y1, .int .i64 s1, .int .i64 t1, v1, v2], .agg #[.int .i64 x2, .int .i64 y2, .int .i64 s2, .int .i64 t2, v3, v4]] w fun e w' => e = .returned (.bool (decide (x1 = x2 ∧ y1 = y2 ∧ s1 = s2 ∧ t1 = t2 ∧ L1 = M1 ∧ L2 = M2))) ∧ Below w.heap.size w w' := by
  obtain ⟨W, hW⟩ : ∃ W, W = (w.alloc (.cells #[.int .i64 x1, .int .i64 y1, .int .i64 s1, .int .i64 t1, v1, v2] 28)).alloc (.cells #[.int .i64 x2, .int .i64 y2, .int .i64 s2, .int .i64 t2, v3, v4] 28) := ⟨_, rfl⟩
  have hB : Below w.heap.size w W := by rw [hW]; exact ((Below.refl _ _).alloc (Nat.le_refl _) _).alloc (by simp) _
  have HC := Lib.hid (show BoxC W w.heap.size 28 #[.int .i64 x1, .int .i64 y1, .int .i64 s1, .int .i64 t1, v1, v2] by rw [hW]; exact (BoxC.new _ _ _).later ((Below.refl _ _).alloc (Nat.le_refl _) _))
  have HR := Lib.hid (show BoxC W (w.heap.size + 1) 28 #[.int .i64 x2, .int .i64 y2, .int .i64 s2, .int .i64 t2, v3, v4] by
    rw [hW]
    have h := BoxC.new (w.alloc (.cells #[.int .i64 x1, .int .i64 y1, .int .i64 s1, .int .i64 t1, v1, v2] 28)) 28 #[.int .i64 x2, .int .i64 y2, .int .i64 s2, .int .i64 t2, v3, v4]
    rwa [World.size_alloc] at h)
  have HB := Lib.hid hB
  have HW := Lib.hid hW
  have J := Lib.hid (specEqualConfigs s1 t1 b1 b2 v1 v2 L1 L2 s2 t2 b3 b4 v3 v4 M1 M2 W h1 h2 (o1.later hB) (o2.later hB) k1 k2 (o3.later hB) (o4.later hB))
  have HE := Lib.hid (show decide (x1 = x2 ∧ y1 = y2 ∧ s1 = s2 ∧ t1 = t2 ∧ L1 = M1 ∧ L2 = M2) = (decide (x1 = x2) && (decide (y1 = y2) && decide (s1 = s2 ∧ t1 = t2 ∧ L1 = M1 ∧ L2 = M2))) by simp)
  obtain ⟨z1, q1, rfl⟩ := o1.shape
  obtain ⟨z2, q2, rfl⟩ := o2.shape
  obtain ⟨z3, q3, rfl⟩ := o3.shape
  obtain ⟨z4, q4, rfl⟩ := o4.shape
  clear hB hW o1 o2 o3 o4
  generalize decide (x1 = x2 ∧ y1 = y2 ∧ s1 = s2 ∧ t1 = t2 ∧ L1 = M1 ∧ L2 = M2) = R at *
  generalize decide (s1 = s2 ∧ t1 = t2 ∧ L1 = M1 ∧ L2 = M2) = p at *
  have c0 := HC.out.c 0 rfl
  have c1 := HC.out.c 1 rfl
  have c2 := HC.out.c 2 rfl
  have c3 := HC.out.c 3 rfl
  have c4 := HC.out.c 4 rfl
  have c5 := HC.out.c 5 rfl
  have r0 := HR.out.c 0 rfl
  have r1 := HR.out.c 1 rfl
  have r2 := HR.out.c 2 rfl
  have r3 := HR.out.c 3 rfl
  have r4 := HR.out.c 4 rfl
  have r5 := HR.out.c 5 rfl
  by_cases e1 : x1 = x2
  · rw [decide_eq_true e1, Bool.true_and] at HE
    have g1 : (x1 == x2) = true := by rw [e1]; simp
    clear e1
    by_cases e2 : y1 = y2
    · rw [decide_eq_true e2, Bool.true_and] at HE
      have g2 : (y1 == y2) = true := by rw [e2]; simp
      clear e2
      go_enter Try.func28, Try.ntmps28
      go_wp2_with fail
      rw [← HW.out]
      go_wp2_with fail
      refine J.out.mono ?_
      rintro e w1 ⟨rfl, hb⟩
      replace HB := Lib.hid (HB.out.trans (hb.mono HB.out.size))
      clear hb J HW c0 c1 c2 c3 c4 c5 r0 r1 r2 r3 r4 r5
      go_wp2_with fail
      go_ret
      exact ⟨by rw [HE.out]; rfl, HB.out⟩
    · rw [decide_eq_false e2, Bool.false_and] at HE
      have g2 : (y1 == y2) = false := by rw [beq_eq_false_iff_ne]; exact e2
      clear e2 J
      go_enter Try.func28, Try.ntmps28
      go_wp2_with fail
      rw [← HW.out]
      go_wp2_with fail
      go_ret
      exact ⟨by rw [HE.out]; rfl, HB.out⟩
  · rw [decide_eq_false e1, Bool.false_and] at HE
    have g1 : (x1 == x2) = false := by rw [beq_eq_false_iff_ne]; exact e1
    clear e1 J
    go_enter Try.func28, Try.ntmps28
    go_wp2_with fail
    rw [← HW.out]
    go_wp2_with fail
    go_ret
    exact ⟨by rw [HE.out]; rfl, HB.out⟩
set_option maxRecDepth 100000 in
set_option maxHeartbeats 2000000 in
theorem implEqualAcceptors (x1 y1 s1 t1 : Int) (b1 b2 : Nat) (v1 v2 : Value) (L1 L2 : List Int) (x2 y2 s2 t2 : Int) (b3 b4 : Nat) (v3 v4 : Value) (M1 M2 : List Int) (w : World) (h1 : L1.length ≤ 4194304) (h2 : L2.length ≤ 4194304) (o1 : OwnI b1 w v1 L1) (o2 : OwnI b2 w v2 L2)
    (k1 : M1.length ≤ 4194304) (k2 : M2.length ≤ 4194304) (o3 : OwnI b3 w v3 M1) (o4 : OwnI b4 w v4 M2) :
    Calls Try.prog 12 #[.agg #[.int .i64 x1, .int .i64 y1, .int .i64 s1, .int .i64 t1, v1, v2], .agg #[.int .i64 x2, .int .i64 y2, .int .i64 s2, .int .i64 t2, v3, v4]] w fun e w' => e = .returned (.bool (decide (x1 = x2 ∧ y1 = y2 ∧ s1 = s2 ∧ t1 = t2 ∧ L1 = M1 ∧ L2 = M2))) ∧ Below w.heap.size w w' := by
  obtain ⟨W, hW⟩ : ∃ W, W = (w.alloc (.cells #[.int .i64 x1, .int .i64 y1, .int .i64 s1, .int .i64 t1, v1, v2] 28)).alloc (.cells #[.int .i64 x2, .int .i64 y2, .int .i64 s2, .int .i64 t2, v3, v4] 28) := ⟨_, rfl⟩
  have hB : Below w.heap.size w W := by rw [hW]; exact ((Below.refl _ _).alloc (Nat.le_refl _) _).alloc (by simp) _
  have HC := Lib.hid (show BoxC W w.heap.size 28 #[.int .i64 x1, .int .i64 y1, .int .i64 s1, .int .i64 t1, v1, v2] by rw [hW]; exact (BoxC.new _ _ _).later ((Below.refl _ _).alloc (Nat.le_refl _) _))
  have HR := Lib.hid (show BoxC W (w.heap.size + 1) 28 #[.int .i64 x2, .int .i64 y2, .int .i64 s2, .int .i64 t2, v3, v4] by
    rw [hW]
    have h := BoxC.new (w.alloc (.cells #[.int .i64 x1, .int .i64 y1, .int .i64 s1, .int .i64 t1, v1, v2] 28)) 28 #[.int .i64 x2, .int .i64 y2, .int .i64 s2, .int .i64 t2, v3, v4]
    rwa [World.size_alloc] at h)
  have HB := Lib.hid hB
  have HW := Lib.hid hW
  have J := Lib.hid (implEqualConfigs s1 t1 b1 b2 v1 v2 L1 L2 s2 t2 b3 b4 v3 v4 M1 M2 W h1 h2 (o1.later hB) (o2.later hB) k1 k2 (o3.later hB) (o4.later hB))
  have HE := Lib.hid (show decide (x1 = x2 ∧ y1 = y2 ∧ s1 = s2 ∧ t1 = t2 ∧ L1 = M1 ∧ L2 = M2) = (decide (x1 = x2) && (decide (y1 = y2) && decide (s1 = s2 ∧ t1 = t2 ∧ L1 = M1 ∧ L2 = M2))) by simp)
  obtain ⟨z1, q1, rfl⟩ := o1.shape
  obtain ⟨z2, q2, rfl⟩ := o2.shape
  obtain ⟨z3, q3, rfl⟩ := o3.shape
  obtain ⟨z4, q4, rfl⟩ := o4.shape
  clear hB hW o1 o2 o3 o4
  generalize decide (x1 = x2 ∧ y1 = y2 ∧ s1 = s2 ∧ t1 = t2 ∧ L1 = M1 ∧ L2 = M2) = R at *
  generalize decide (s1 = s2 ∧ t1 = t2 ∧ L1 = M1 ∧ L2 = M2) = p at *
  have c0 := HC.out.c 0 rfl
  have c1 := HC.out.c 1 rfl
  have c2 := HC.out.c 2 rfl
  have c3 := HC.out.c 3 rfl
  have c4 := HC.out.c 4 rfl
  have c5 := HC.out.c 5 rfl
  have r0 := HR.out.c 0 rfl
  have r1 := HR.out.c 1 rfl
  have r2 := HR.out.c 2 rfl
  have r3 := HR.out.c 3 rfl
  have r4 := HR.out.c 4 rfl
  have r5 := HR.out.c 5 rfl
  by_cases e1 : x1 = x2
  · rw [decide_eq_true e1, Bool.true_and] at HE
    have g1 : (x1 == x2) = true := by rw [e1]; simp
    clear e1
    by_cases e2 : y1 = y2
    · rw [decide_eq_true e2, Bool.true_and] at HE
      have g2 : (y1 == y2) = true := by rw [e2]; simp
      clear e2
      go_enter Try.func12, Try.ntmps12
      go_wp2_with fail
      rw [← HW.out]
      go_wp2_with fail
      refine J.out.mono ?_
      rintro e w1 ⟨rfl, hb⟩
      replace HB := Lib.hid (HB.out.trans (hb.mono HB.out.size))
      clear hb J HW c0 c1 c2 c3 c4 c5 r0 r1 r2 r3 r4 r5
      go_wp2_with fail
      go_ret
      exact ⟨by rw [HE.out]; rfl, HB.out⟩
    · rw [decide_eq_false e2, Bool.false_and] at HE
      have g2 : (y1 == y2) = false := by rw [beq_eq_false_iff_ne]; exact e2
      clear e2 J
      go_enter Try.func12, Try.ntmps12
      go_wp2_with fail
      rw [← HW.out]
      go_wp2_with fail
      go_ret
      exact ⟨by rw [HE.out]; rfl, HB.out⟩
  · rw [decide_eq_false e1, Bool.false_and] at HE
    have g1 : (x1 == x2) = false := by rw [beq_eq_false_iff_ne]; exact e1
    clear e1 J
    go_enter Try.func12, Try.ntmps12
    go_wp2_with fail
    rw [← HW.out]
    go_wp2_with fail
    go_ret
    exact ⟨by rw [HE.out]; rfl, HB.out⟩
end Go.Proofs.Ytgjebjoaemeeoaa.kit
