/-
  Chapter 10: what the specification's Prepare and Accept return.
-/
import Derived.Test.YtgjebjoaemeeoaaS10CopyL
import Derived.Test.YtgjebjoaemeeoaaS10Valid
namespace Go.Proofs.Ytgjebjoaemeeoaa.kit
open Go.ChangeShapes Go.WideShapes Go.ChangeAt Go.RowKit
set_option linter.unusedVariables false
set_option linter.unusedSimpArgs false

theorem specBal (n : Int) (w : World) : Calls Try.prog 35 #[.int .i64 n, .int .i64 1, .int .i64 99] w fun e w' => e = .returned (.bool (inBal n)) ∧ w = w' := by
  unfold inBal
  by_cases h : 1 ≤ n ∧ n ≤ 99
  · rw [decide_eq_true h]; exact in_true n 1 99 w h.1 h.2
  · rw [decide_eq_false h]; exact in_false n 1 99 w (by omega)
set_option maxRecDepth 100000 in
set_option maxHeartbeats 4000000 in
theorem specPrepare (x y s t : Int) (b1 b2 : Nat) (v1 v2 : Value) (L1 L2 : List Int) (n : Int) (w : World) (h1 : L1.length ≤ 1048576) (h2 : L2.length ≤ 1048576) (o1 : OwnI b1 w v1 L1) (o2 : OwnI b2 w v2 L2) :
    Calls Try.prog 11 #[.agg #[.int .i64 x, .int .i64 y, .int .i64 s, .int .i64 t, v1, v2], .int .i64 n] w fun e w' => ∃ u1 u2, e = .returned (.tuple #[.agg #[.int .i64 (prepX x y s t L1 L2 n), .int .i64 (same y), .int .i64 (same s), .int .i64 (same t), u1, u2], .bool (prepOk x y s t L1 L2 n)]) ∧ OwnI w.heap.size w' u1 (same L1) ∧ OwnI w.heap.size w' u2 (same L2) ∧ Below w.heap.size w w' := by
  obtain ⟨W0, hW0⟩ : ∃ W, W = (w.alloc (.cells #[.int .i64 x, .int .i64 y, .int .i64 s, .int .i64 t, v1, v2] 28)).alloc (.cells #[.int .i64 0, .int .i64 0, .int .i64 0, .int .i64 0, .slice none 0 0, .slice none 0 0] 28) := ⟨_, rfl⟩
  have hA : Below w.heap.size w W0 := by rw [hW0]; exact ((Below.refl _ _).alloc (Nat.le_refl _) _).alloc (by simp) _
  have HC := Lib.hid (show BoxC W0 w.heap.size 28 #[.int .i64 x, .int .i64 y, .int .i64 s, .int .i64 t, v1, v2] by rw [hW0]; exact (BoxC.new _ _ _).later ((Below.refl _ _).alloc (Nat.le_refl _) _))
  have HR := Lib.hid (show BoxC W0 (w.heap.size + 1) 28 #[.int .i64 0, .int .i64 0, .int .i64 0, .int .i64 0, .slice none 0 0, .slice none 0 0] by
    rw [hW0]
    have h := BoxC.new (w.alloc (.cells #[.int .i64 x, .int .i64 y, .int .i64 s, .int .i64 t, v1, v2] 28)) 28 #[.int .i64 0, .int .i64 0, .int .i64 0, .int .i64 0, .slice none 0 0, .slice none 0 0]
    rwa [World.size_alloc] at h)
  have HS1 := Lib.hid (o1.later hA)
  have HS2 := Lib.hid (o2.later hA)
  obtain ⟨y1, q1, rfl⟩ := o1.shape
  obtain ⟨y2, q2, rfl⟩ := o2.shape
  have HA := Lib.hid hA
  have HW0 := Lib.hid hW0
  have HP := Lib.hid (show prepOk x y s t L1 L2 n = (accOk x y s t L1 L2 && (inBal n && decide (x < n))) from rfl)
  have HX1 := Lib.hid (show prepX x y s t L1 L2 n = if prepOk x y s t L1 L2 n = true then n else x from rfl)
  have J0 := Lib.hid (l10Copy x y s t _ _ _ _ L1 L2 W0 (by omega) (by omega) HS1.out HS2.out)
  have JV := Lib.hid (fun W (h : Below w.heap.size w W) => specIsValidAcceptor x y s t b1 b2 (.slice y1 L1.length q1) (.slice y2 L2.length q2) L1 L2 W h1 h2 (o1.later h) (o2.later h))
  clear hA hW0 o1 o2
  generalize prepOk x y s t L1 L2 n = R at *
  generalize prepX x y s t L1 L2 n = X at *
  have c0 := HC.out.c 0 rfl
  have c1 := HC.out.c 1 rfl
  have c2 := HC.out.c 2 rfl
  have c3 := HC.out.c 3 rfl
  have c4 := HC.out.c 4 rfl
  have c5 := HC.out.c 5 rfl
  go_enter Try.func11, Try.ntmps11
  go_wp2_with fail
  rw [← HW0.out]
  clear HW0
  refine J0.out.mono ?_
  rintro e w1 ⟨u1, u2, rfl, ho1, ho2, hb⟩
  obtain ⟨z1, k1, rfl⟩ := ho1.shape
  obtain ⟨z2, k2, rfl⟩ := ho2.shape
  have hbX := (Below.refl w1.heap.size w1).alloc (Nat.le_refl _) (.cells #[.int .i64 x, .int .i64 y, .int .i64 s, .int .i64 t, .slice z1 L1.length k1, .slice z2 L2.length k2] 28)
  obtain ⟨W2, hW2⟩ : ∃ q, q = w1.alloc (.cells #[.int .i64 x, .int .i64 y, .int .i64 s, .int .i64 t, .slice z1 L1.length k1, .slice z2 L2.length k2] 28) := ⟨_, rfl⟩
  obtain ⟨p, hp⟩ : ∃ q, q = w1.heap.size := ⟨_, rfl⟩
  have hpw : w.heap.size + 1 < p := by have := hb.size; have := HR.out.lt; omega
  have HX := Lib.hid (show BoxC W2 p 28 #[.int .i64 x, .int .i64 y, .int .i64 s, .int .i64 t, .slice z1 L1.length k1, .slice z2 L2.length k2] by rw [hW2, hp]; exact BoxC.new _ _ _)
  replace HC := Lib.hid (show BoxC W2 w.heap.size 28 _ by rw [hW2]; exact (HC.out.later hb).later hbX)
  replace HR := Lib.hid (show BoxC W2 (w.heap.size + 1) 28 _ by rw [hW2]; exact (HR.out.later hb).later hbX)
  have HO1 := Lib.hid (show OwnI w.heap.size W2 _ L1 by rw [hW2]; exact (ho1.later hbX).mono HA.out.size)
  have HO2 := Lib.hid (show OwnI w.heap.size W2 _ L2 by rw [hW2]; exact (ho2.later hbX).mono HA.out.size)
  have HB := Lib.hid (show Below w.heap.size w W2 by rw [hW2]; exact (HA.out.trans (hb.mono HA.out.size)).trans (hbX.mono (HA.out.trans (hb.mono HA.out.size)).size))
  have HW2 := Lib.hid hW2
  have HP2 := Lib.hid hp
  clear hb hbX hW2 hp ho1 ho2 J0 HA HS1 HS2 c0 c1 c2 c3 c4 c5
  go_upto_region 2 with (fail)
  rw [← HW2.out, ← HP2.out]
  clear HW2 HP2
  have c0 := HC.out.c 0 rfl
  have c1 := HC.out.c 1 rfl
  have c2 := HC.out.c 2 rfl
  have c3 := HC.out.c 3 rfl
  have c4 := HC.out.c 4 rfl
  have c5 := HC.out.c 5 rfl
  go_wp2_with fail
  refine (JV.out _ HB.out).mono ?_
  rintro e w3 ⟨rfl, hb⟩
  replace HX := Lib.hid (HX.out.later hb)
  replace HC := Lib.hid (HC.out.later hb)
  replace HR := Lib.hid (HR.out.later hb)
  replace HO1 := Lib.hid (HO1.out.later hb)
  replace HO2 := Lib.hid (HO2.out.later hb)
  replace HB := Lib.hid (HB.out.trans (hb.mono HB.out.size))
  clear hb JV c0 c1 c2 c3 c4 c5
  have c0 := HC.out.c 0 rfl
  have c1 := HC.out.c 1 rfl
  have c2 := HC.out.c 2 rfl
  have c3 := HC.out.c 3 rfl
  have c4 := HC.out.c 4 rfl
  have c5 := HC.out.c 5 rfl
  have r0 := HR.out.c 0 rfl
  have r1 := HR.out.c 1 rfl
  have r2 := HR.out.c 2 rfl
  have r3 := HR.out.c 3 rfl
  have r4 := HR.out.c 4 rfl
  have r5 := HR.out.c 5 rfl
  have g0 := HR.out.f 0
  have g1 := HR.out.f 1
  have g2 := HR.out.f 2
  have g3 := HR.out.f 3
  have g4 := HR.out.f 4
  have g5 := HR.out.f 5
  have x0 := HX.out.c 0 rfl
  have x1 := HX.out.c 1 rfl
  have x2 := HX.out.c 2 rfl
  have x3 := HX.out.c 3 rfl
  have x4 := HX.out.c 4 rfl
  have x5 := HX.out.c 5 rfl
  have f0 := HX.out.f 0
  cases ha : accOk x y s t L1 L2 with
  | false =>
    rw [ha, Bool.false_and] at HP
    clear ha
    go_wp2_with fail
    refine bodyPost_ret (v := .tuple #[.agg #[.int .i64 x, .int .i64 y, .int .i64 s, .int .i64 t, .slice z1 L1.length k1, .slice z2 L2.length k2], .bool false]) (by simp [results, Try.results11, go_sem, r0, r1, r2, r3, r4, r5]) rfl ⟨_, _, by rw [HX1.out, HP.out]; rfl, ?_, ?_, ?_⟩
    · exact put6 HO1.out HR.out (by decide) _ _ _ _ _ _
    · exact put6 HO2.out HR.out (by decide) _ _ _ _ _ _
    · exact below6 HB.out (Nat.le_succ _) _ _ _ _ _ _
  | true =>
    rw [ha, Bool.true_and] at HP
    have JB := Lib.hid (specBal n w3)
    clear ha
    go_wp2_with fail
    have jb := JB.out
    generalize inBal n = q at *
    refine jb.mono ?_
    rintro e w4 ⟨rfl, rfl⟩
    clear jb JB
    cases q with
    | false =>
      rw [Bool.false_and] at HP
      go_wp2_with fail
      refine bodyPost_ret (v := .tuple #[.agg #[.int .i64 x, .int .i64 y, .int .i64 s, .int .i64 t, .slice z1 L1.length k1, .slice z2 L2.length k2], .bool false]) (by simp [results, Try.results11, go_sem, r0, r1, r2, r3, r4, r5]) rfl ⟨_, _, by rw [HX1.out, HP.out]; rfl, ?_, ?_, ?_⟩
      · exact put6 HO1.out HR.out (by decide) _ _ _ _ _ _
      · exact put6 HO2.out HR.out (by decide) _ _ _ _ _ _
      · exact below6 HB.out (Nat.le_succ _) _ _ _ _ _ _
    | true =>
      rw [Bool.true_and] at HP
      by_cases hn : x < n
      · rw [decide_eq_true hn] at HP
        have e1 : decide (n ≤ x) = false := decide_eq_false (by omega)
        clear hn
        have hne : w.heap.size + 1 ≠ p := Nat.ne_of_lt hpw
        have HRP := Lib.hid (HR.out.keep hne 0 (.int .i64 n))
        have HO1' := Lib.hid (rowI_put HO1.out HX.out (by decide) 0 (.int .i64 n))
        have HO2' := Lib.hid (rowI_put HO2.out HX.out (by decide) 0 (.int .i64 n))
        have HB' := Lib.hid (HB.out.setCell (p := ⟨p, 0, none⟩) (show w.heap.size ≤ p by omega) (.int .i64 n))
        go_wp2_with fail
        refine bodyPost_ret (v := .tuple #[.agg #[.int .i64 n, .int .i64 y, .int .i64 s, .int .i64 t, .slice z1 L1.length k1, .slice z2 L2.length k2], .bool true]) (by simp [results, Try.results11, go_sem, r0, r1, r2, r3, r4, r5, hne]) rfl ⟨_, _, by rw [HX1.out, HP.out]; rfl, ?_, ?_, ?_⟩
        · exact put6 HO1'.out HRP.out (by decide) _ _ _ _ _ _
        · exact put6 HO2'.out HRP.out (by decide) _ _ _ _ _ _
        · exact below6 HB'.out (Nat.le_succ _) _ _ _ _ _ _
      · rw [decide_eq_false hn] at HP
        have e1 : decide (n ≤ x) = true := decide_eq_true (by omega)
        clear hn
        go_wp2_with fail
        refine bodyPost_ret (v := .tuple #[.agg #[.int .i64 x, .int .i64 y, .int .i64 s, .int .i64 t, .slice z1 L1.length k1, .slice z2 L2.length k2], .bool false]) (by simp [results, Try.results11, go_sem, r0, r1, r2, r3, r4, r5]) rfl ⟨_, _, by rw [HX1.out, HP.out]; rfl, ?_, ?_, ?_⟩
        · exact put6 HO1.out HR.out (by decide) _ _ _ _ _ _
        · exact put6 HO2.out HR.out (by decide) _ _ _ _ _ _
        · exact below6 HB.out (Nat.le_succ _) _ _ _ _ _ _
set_option maxRecDepth 100000 in
set_option maxHeartbeats 4000000 in
theorem specAccept (x y s t : Int) (b1 b2 : Nat) (v1 v2 : Value) (L1 L2 : List Int) (n : Int) (s' t' : Int) (b3 b4 : Nat) (v3 v4 : Value) (M1 M2 : List Int) (w : World) (h1 : L1.length ≤ 1048576) (h2 : L2.length ≤ 1048576) (o1 : OwnI b1 w v1 L1) (o2 : OwnI b2 w v2 L2)
    (k1 : M1.length ≤ 1048576) (k2 : M2.length ≤ 1048576) (o3 : OwnI b3 w v3 M1) (o4 : OwnI b4 w v4 M2) :
    Calls Try.prog 15 #[.agg #[.int .i64 x, .int .i64 y, .int .i64 s, .int .i64 t, v1, v2], .int .i64 n, .agg #[.int .i64 s', .int .i64 t', v3, v4]] w fun e w' => ∃ u1 u2, e = .returned (.tuple #[.agg #[.int .i64 (acpX x y s t L1 L2 n s' t' M1 M2), .int .i64 (acpY x y s t L1 L2 n s' t' M1 M2), .int .i64 (acpS x y s t L1 L2 n s' t' M1 M2), .int .i64 (acpT x y s t L1 L2 n s' t' M1 M2), u1, u2], .bool (acpOk x y s t L1 L2 n s' t' M1 M2)]) ∧
      OwnI w.heap.size w' u1 (acpL1 x y s t L1 L2 n s' t' M1 M2) ∧ OwnI w.heap.size w' u2 (acpL2 x y s t L1 L2 n s' t' M1 M2) ∧ Below w.heap.size w w' := by
  obtain ⟨W0, hW0⟩ : ∃ W, W = ((w.alloc (.cells #[.int .i64 x, .int .i64 y, .int .i64 s, .int .i64 t, v1, v2] 28)).alloc (.cells #[.int .i64 s', .int .i64 t', v3, v4] 26)).alloc (.cells #[.int .i64 0, .int .i64 0, .int .i64 0, .int .i64 0, .slice none 0 0, .slice none 0 0] 28) := ⟨_, rfl⟩
  have hA : Below w.heap.size w W0 := by rw [hW0]; exact (((Below.refl _ _).alloc (Nat.le_refl _) _).alloc (by simp) _).alloc (by simp; omega) _
  have HC := Lib.hid (show BoxC W0 w.heap.size 28 #[.int .i64 x, .int .i64 y, .int .i64 s, .int .i64 t, v1, v2] by
    rw [hW0]
    exact ((BoxC.new w 28 #[.int .i64 x, .int .i64 y, .int .i64 s, .int .i64 t, v1, v2]).later ((Below.refl _ _).alloc (Nat.le_refl _) _)).later ((Below.refl _ _).alloc (Nat.le_refl _) _))
  have HV := Lib.hid (show BoxC W0 (w.heap.size + 1) 26 #[.int .i64 s', .int .i64 t', v3, v4] by
    rw [hW0]
    have h := BoxC.new (w.alloc (.cells #[.int .i64 x, .int .i64 y, .int .i64 s, .int .i64 t, v1, v2] 28)) 26 #[.int .i64 s', .int .i64 t', v3, v4]
    rw [World.size_alloc] at h
    exact h.later ((Below.refl _ _).alloc (Nat.le_refl _) _))
  have HR := Lib.hid (show BoxC W0 (w.heap.size + 1 + 1) 28 #[.int .i64 0, .int .i64 0, .int .i64 0, .int .i64 0, .slice none 0 0, .slice none 0 0] by
    rw [hW0]
    have h := BoxC.new ((w.alloc (.cells #[.int .i64 x, .int .i64 y, .int .i64 s, .int .i64 t, v1, v2] 28)).alloc (.cells #[.int .i64 s', .int .i64 t', v3, v4] 26)) 28 #[.int .i64 0, .int .i64 0, .int .i64 0, .int .i64 0, .slice none 0 0, .slice none 0 0]
    rwa [World.size_alloc, World.size_alloc] at h)
  have HB := Lib.hid hA
  have HW0 := Lib.hid hW0
  have HS1 := Lib.hid (o1.later hA)
  have HS2 := Lib.hid (o2.later hA)
  have HS3 := Lib.hid (o3.later hA)
  have HS4 := Lib.hid (o4.later hA)
  obtain ⟨y1, q1, rfl⟩ := o1.shape
  obtain ⟨y2, q2, rfl⟩ := o2.shape
  obtain ⟨y3, q3, rfl⟩ := o3.shape
  obtain ⟨y4, q4, rfl⟩ := o4.shape
  have HP := Lib.hid (show acpOk x y s t L1 L2 n s' t' M1 M2 = (accOk x y s t L1 L2 && (inBal n && (cfgOk s' t' M1 M2 && decide (x ≤ n)))) from rfl)
  have HNo := Lib.hid (fun h : acpOk x y s t L1 L2 n s' t' M1 M2 = false => (show acpX x y s t L1 L2 n s' t' M1 M2 = x ∧ acpY x y s t L1 L2 n s' t' M1 M2 = y ∧ acpS x y s t L1 L2 n s' t' M1 M2 = s ∧ acpT x y s t L1 L2 n s' t' M1 M2 = t ∧ acpL1 x y s t L1 L2 n s' t' M1 M2 = L1 ∧ acpL2 x y s t L1 L2 n s' t' M1 M2 = L2 from ⟨acpSel_no h _ _, acpSel_no h _ _, acpSel_no h _ _, acpSel_no h _ _, acpSel_no h _ _, acpSel_no h _ _⟩))
  have HYes := Lib.hid (fun h : acpOk x y s t L1 L2 n s' t' M1 M2 = true => (show acpX x y s t L1 L2 n s' t' M1 M2 = n ∧ acpY x y s t L1 L2 n s' t' M1 M2 = n ∧ acpS x y s t L1 L2 n s' t' M1 M2 = s' ∧ acpT x y s t L1 L2 n s' t' M1 M2 = t' ∧ acpL1 x y s t L1 L2 n s' t' M1 M2 = M1 ∧ acpL2 x y s t L1 L2 n s' t' M1 M2 = M2 from ⟨acpSel_yes h _ _, acpSel_yes h _ _, acpSel_yes h _ _, acpSel_yes h _ _, acpSel_yes h _ _, acpSel_yes h _ _⟩))
  have JV := Lib.hid (specIsValidAcceptor x y s t _ _ _ _ L1 L2 W0 h1 h2 HS1.out HS2.out)
  have JC := Lib.hid (fun W (h : Below w.heap.size w W) => specIsValidConfig s' t' b3 b4 (.slice y3 M1.length q3) (.slice y4 M2.length q4) M1 M2 W k1 k2 (o3.later h) (o4.later h))
  have JL := Lib.hid (fun W (h : Below w.heap.size w W) => l10Copy x y s t b1 b2 (.slice y1 L1.length q1) (.slice y2 L2.length q2) L1 L2 W (by omega) (by omega) (o1.later h) (o2.later h))
  have JK := Lib.hid (fun W (h : Below w.heap.size w W) => l8Copy s' t' b3 b4 (.slice y3 M1.length q3) (.slice y4 M2.length q4) M1 M2 W (by omega) (by omega) (o3.later h) (o4.later h))
  clear hA hW0 o1 o2 o3 o4 HS1 HS2 HS3 HS4
  generalize acpOk x y s t L1 L2 n s' t' M1 M2 = R at *
  generalize acpX x y s t L1 L2 n s' t' M1 M2 = X1 at *
  generalize acpY x y s t L1 L2 n s' t' M1 M2 = X2 at *
  generalize acpS x y s t L1 L2 n s' t' M1 M2 = X3 at *
  generalize acpT x y s t L1 L2 n s' t' M1 M2 = X4 at *
  generalize acpL1 x y s t L1 L2 n s' t' M1 M2 = X5 at *
  generalize acpL2 x y s t L1 L2 n s' t' M1 M2 = X6 at *
  have c0 := HC.out.c 0 rfl
  have c1 := HC.out.c 1 rfl
  have c2 := HC.out.c 2 rfl
  have c3 := HC.out.c 3 rfl
  have c4 := HC.out.c 4 rfl
  have c5 := HC.out.c 5 rfl
  go_enter Try.func15, Try.ntmps15
  go_wp2_with fail
  rw [← HW0.out]
  clear HW0
  refine JV.out.mono ?_
  rintro e w1 ⟨rfl, hb⟩
  replace HC := Lib.hid (HC.out.later hb)
  replace HV := Lib.hid (HV.out.later hb)
  replace HR := Lib.hid (HR.out.later hb)
  replace HB := Lib.hid (HB.out.trans (hb.mono HB.out.size))
  clear hb
  clear JV c0 c1 c2 c3 c4 c5
  have c0 := HC.out.c 0 rfl
  have c1 := HC.out.c 1 rfl
  have c2 := HC.out.c 2 rfl
  have c3 := HC.out.c 3 rfl
  have c4 := HC.out.c 4 rfl
  have c5 := HC.out.c 5 rfl
  have d0 := HV.out.c 0 rfl
  have d1 := HV.out.c 1 rfl
  have d2 := HV.out.c 2 rfl
  have d3 := HV.out.c 3 rfl
  cases ha : accOk x y s t L1 L2 with
  | false =>
    rw [ha, Bool.false_and] at HP
    clear ha
    obtain ⟨e1', e2', e3', e4', e5', e6'⟩ := HNo.out HP.out
    replace e1' := e1'.symm
    replace e2' := e2'.symm
    replace e3' := e3'.symm
    replace e4' := e4'.symm
    replace e5' := e5'.symm
    replace e6' := e6'.symm
    subst e1' e2' e3' e4' e5' e6'
    have E := Lib.hid HP.out
    have jl := JL.out _ HB.out
    clear HP HNo HYes JC JL JK
    go_wp2_with fail
    refine jl.mono ?_
    rintro e w9 ⟨u1, u2, rfl, ho1, ho2, hb⟩
    obtain ⟨z1, kk1, rfl⟩ := ho1.shape
    obtain ⟨z2, kk2, rfl⟩ := ho2.shape
    have HO1 := Lib.hid (ho1.mono HB.out.size)
    have HO2 := Lib.hid (ho2.mono HB.out.size)
    replace HC := Lib.hid (HC.out.later hb)
    replace HV := Lib.hid (HV.out.later hb)
    replace HR := Lib.hid (HR.out.later hb)
    replace HB := Lib.hid (HB.out.trans (hb.mono HB.out.size))
    clear hb
    clear ho1 ho2 c0 c1 c2 c3 c4 c5 d0 d1 d2 d3 jl
    have r0 := HR.out.c 0 rfl
    have r1 := HR.out.c 1 rfl
    have r2 := HR.out.c 2 rfl
    have r3 := HR.out.c 3 rfl
    have r4 := HR.out.c 4 rfl
    have r5 := HR.out.c 5 rfl
    have g0 := HR.out.f 0
    have g1 := HR.out.f 1
    have g2 := HR.out.f 2
    have g3 := HR.out.f 3
    have g4 := HR.out.f 4
    have g5 := HR.out.f 5
    go_wp2_with fail
    refine bodyPost_ret (v := .tuple #[.agg #[.int .i64 x, .int .i64 y, .int .i64 s, .int .i64 t, .slice z1 L1.length kk1, .slice z2 L2.length kk2], .bool false]) (by simp [results, Try.results15, go_sem, r0, r1, r2, r3, r4, r5]) rfl ⟨_, _, by rw [E.out], ?_, ?_, ?_⟩
    · exact put6 HO1.out HR.out (by decide) _ _ _ _ _ _
    · exact put6 HO2.out HR.out (by decide) _ _ _ _ _ _
    · exact below6 HB.out (Nat.le_succ_of_le (Nat.le_succ _)) _ _ _ _ _ _
  | true =>
    rw [ha, Bool.true_and] at HP
    have jb := specBal n w1
    clear ha
    generalize inBal n = q at *
    go_wp2_with fail
    refine jb.mono ?_
    rintro e w4 ⟨rfl, rfl⟩
    clear jb
    cases q with
    | false =>
      rw [Bool.false_and] at HP
      obtain ⟨e1', e2', e3', e4', e5', e6'⟩ := HNo.out HP.out
      replace e1' := e1'.symm
      replace e2' := e2'.symm
      replace e3' := e3'.symm
      replace e4' := e4'.symm
      replace e5' := e5'.symm
      replace e6' := e6'.symm
      subst e1' e2' e3' e4' e5' e6'
      have E := Lib.hid HP.out
      have jl := JL.out _ HB.out
      clear HP HNo HYes JC JL JK
      go_wp2_with fail
      refine jl.mono ?_
      rintro e w9 ⟨u1, u2, rfl, ho1, ho2, hb⟩
      obtain ⟨z1, kk1, rfl⟩ := ho1.shape
      obtain ⟨z2, kk2, rfl⟩ := ho2.shape
      have HO1 := Lib.hid (ho1.mono HB.out.size)
      have HO2 := Lib.hid (ho2.mono HB.out.size)
      replace HC := Lib.hid (HC.out.later hb)
      replace HV := Lib.hid (HV.out.later hb)
      replace HR := Lib.hid (HR.out.later hb)
      replace HB := Lib.hid (HB.out.trans (hb.mono HB.out.size))
      clear hb
      clear ho1 ho2 c0 c1 c2 c3 c4 c5 d0 d1 d2 d3 jl
      have r0 := HR.out.c 0 rfl
      have r1 := HR.out.c 1 rfl
      have r2 := HR.out.c 2 rfl
      have r3 := HR.out.c 3 rfl
      have r4 := HR.out.c 4 rfl
      have r5 := HR.out.c 5 rfl
      have g0 := HR.out.f 0
      have g1 := HR.out.f 1
      have g2 := HR.out.f 2
      have g3 := HR.out.f 3
      have g4 := HR.out.f 4
      have g5 := HR.out.f 5
      go_wp2_with fail
      refine bodyPost_ret (v := .tuple #[.agg #[.int .i64 x, .int .i64 y, .int .i64 s, .int .i64 t, .slice z1 L1.length kk1, .slice z2 L2.length kk2], .bool false]) (by simp [results, Try.results15, go_sem, r0, r1, r2, r3, r4, r5]) rfl ⟨_, _, by rw [E.out], ?_, ?_, ?_⟩
      · exact put6 HO1.out HR.out (by decide) _ _ _ _ _ _
      · exact put6 HO2.out HR.out (by decide) _ _ _ _ _ _
      · exact below6 HB.out (Nat.le_succ_of_le (Nat.le_succ _)) _ _ _ _ _ _
    | true =>
      rw [Bool.true_and] at HP
      have jc := JC.out _ HB.out
      generalize cfgOk s' t' M1 M2 = q at *
      go_wp2_with fail
      refine jc.mono ?_
      rintro e w5 ⟨rfl, hb⟩
      replace HC := Lib.hid (HC.out.later hb)
      replace HV := Lib.hid (HV.out.later hb)
      replace HR := Lib.hid (HR.out.later hb)
      replace HB := Lib.hid (HB.out.trans (hb.mono HB.out.size))
      clear hb
      clear jc c0 c1 c2 c3 c4 c5 d0 d1 d2 d3
      have c0 := HC.out.c 0 rfl
      have c1 := HC.out.c 1 rfl
      have c2 := HC.out.c 2 rfl
      have c3 := HC.out.c 3 rfl
      have c4 := HC.out.c 4 rfl
      have c5 := HC.out.c 5 rfl
      have d0 := HV.out.c 0 rfl
      have d1 := HV.out.c 1 rfl
      have d2 := HV.out.c 2 rfl
      have d3 := HV.out.c 3 rfl
      cases q with
      | false =>
        rw [Bool.false_and] at HP
        obtain ⟨e1', e2', e3', e4', e5', e6'⟩ := HNo.out HP.out
        replace e1' := e1'.symm
        replace e2' := e2'.symm
        replace e3' := e3'.symm
        replace e4' := e4'.symm
        replace e5' := e5'.symm
        replace e6' := e6'.symm
        subst e1' e2' e3' e4' e5' e6'
        have E := Lib.hid HP.out
        have jl := JL.out _ HB.out
        clear HP HNo HYes JC JL JK
        go_wp2_with fail
        refine jl.mono ?_
        rintro e w9 ⟨u1, u2, rfl, ho1, ho2, hb⟩
        obtain ⟨z1, kk1, rfl⟩ := ho1.shape
        obtain ⟨z2, kk2, rfl⟩ := ho2.shape
        have HO1 := Lib.hid (ho1.mono HB.out.size)
        have HO2 := Lib.hid (ho2.mono HB.out.size)
        replace HC := Lib.hid (HC.out.later hb)
        replace HV := Lib.hid (HV.out.later hb)
        replace HR := Lib.hid (HR.out.later hb)
        replace HB := Lib.hid (HB.out.trans (hb.mono HB.out.size))
        clear hb
        clear ho1 ho2 c0 c1 c2 c3 c4 c5 d0 d1 d2 d3 jl
        have r0 := HR.out.c 0 rfl
        have r1 := HR.out.c 1 rfl
        have r2 := HR.out.c 2 rfl
        have r3 := HR.out.c 3 rfl
        have r4 := HR.out.c 4 rfl
        have r5 := HR.out.c 5 rfl
        have g0 := HR.out.f 0
        have g1 := HR.out.f 1
        have g2 := HR.out.f 2
        have g3 := HR.out.f 3
        have g4 := HR.out.f 4
        have g5 := HR.out.f 5
        go_wp2_with fail
        refine bodyPost_ret (v := .tuple #[.agg #[.int .i64 x, .int .i64 y, .int .i64 s, .int .i64 t, .slice z1 L1.length kk1, .slice z2 L2.length kk2], .bool false]) (by simp [results, Try.results15, go_sem, r0, r1, r2, r3, r4, r5]) rfl ⟨_, _, by rw [E.out], ?_, ?_, ?_⟩
        · exact put6 HO1.out HR.out (by decide) _ _ _ _ _ _
        · exact put6 HO2.out HR.out (by decide) _ _ _ _ _ _
        · exact below6 HB.out (Nat.le_succ_of_le (Nat.le_succ _)) _ _ _ _ _ _
      | true =>
        rw [Bool.true_and] at HP
        by_cases hn : x ≤ n
        · rw [decide_eq_true hn] at HP
          have e1 : decide (n < x) = false := decide_eq_false (by omega)
          obtain ⟨e1', e2', e3', e4', e5', e6'⟩ := HYes.out HP.out
          replace e1' := e1'.symm
          replace e2' := e2'.symm
          replace e3' := e3'.symm
          replace e4' := e4'.symm
          replace e5' := e5'.symm
          replace e6' := e6'.symm
          subst e1' e2' e3' e4' e5' e6'
          have E := Lib.hid HP.out
          have jk := JK.out _ HB.out
          clear HP HNo HYes JC JL JK hn
          go_wp2_with fail
          refine jk.mono ?_
          rintro e w9 ⟨u1, u2, rfl, ho1, ho2, hb⟩
          obtain ⟨z1, kk1, rfl⟩ := ho1.shape
          obtain ⟨z2, kk2, rfl⟩ := ho2.shape
          have HO1 := Lib.hid (ho1.mono HB.out.size)
          have HO2 := Lib.hid (ho2.mono HB.out.size)
          replace HC := Lib.hid (HC.out.later hb)
          replace HV := Lib.hid (HV.out.later hb)
          replace HR := Lib.hid (HR.out.later hb)
          replace HB := Lib.hid (HB.out.trans (hb.mono HB.out.size))
          clear hb
          clear ho1 ho2 c0 c1 c2 c3 c4 c5 d0 d1 d2 d3 jk
          have r0 := HR.out.c 0 rfl
          have r1 := HR.out.c 1 rfl
          have r2 := HR.out.c 2 rfl
          have r3 := HR.out.c 3 rfl
          have r4 := HR.out.c 4 rfl
          have r5 := HR.out.c 5 rfl
          have g0 := HR.out.f 0
          have g1 := HR.out.f 1
          have g2 := HR.out.f 2
          have g3 := HR.out.f 3
          have g4 := HR.out.f 4
          have g5 := HR.out.f 5
          go_wp2_with fail
          refine bodyPost_ret (v := .tuple #[.agg #[.int .i64 n, .int .i64 n, .int .i64 s', .int .i64 t', .slice z1 M1.length kk1, .slice z2 M2.length kk2], .bool true]) (by simp [results, Try.results15, go_sem, r0, r1, r2, r3, r4, r5]) rfl ⟨_, _, by rw [E.out], ?_, ?_, ?_⟩
          · exact put6 HO1.out HR.out (by decide) _ _ _ _ _ _
          · exact put6 HO2.out HR.out (by decide) _ _ _ _ _ _
          · exact below6 HB.out (Nat.le_succ_of_le (Nat.le_succ _)) _ _ _ _ _ _
        · rw [decide_eq_false hn] at HP
          have e1 : decide (n < x) = true := decide_eq_true (by omega)
          clear hn
          obtain ⟨e1', e2', e3', e4', e5', e6'⟩ := HNo.out HP.out
          replace e1' := e1'.symm
          replace e2' := e2'.symm
          replace e3' := e3'.symm
          replace e4' := e4'.symm
          replace e5' := e5'.symm
          replace e6' := e6'.symm
          subst e1' e2' e3' e4' e5' e6'
          have E := Lib.hid HP.out
          have jl := JL.out _ HB.out
          clear HP HNo HYes JC JL JK
          go_wp2_with fail
          refine jl.mono ?_
          rintro e w9 ⟨u1, u2, rfl, ho1, ho2, hb⟩
          obtain ⟨z1, kk1, rfl⟩ := ho1.shape
          obtain ⟨z2, kk2, rfl⟩ := ho2.shape
          have HO1 := Lib.hid (ho1.mono HB.out.size)
          have HO2 := Lib.hid (ho2.mono HB.out.size)
          replace HC := Lib.hid (HC.out.later hb)
          replace HV := Lib.hid (HV.out.later hb)
          replace HR := Lib.hid (HR.out.later hb)
          replace HB := Lib.hid (HB.out.trans (hb.mono HB.out.size))
          clear hb
          clear ho1 ho2 c0 c1 c2 c3 c4 c5 d0 d1 d2 d3 jl
          have r0 := HR.out.c 0 rfl
          have r1 := HR.out.c 1 rfl
          have r2 := HR.out.c 2 rfl
          have r3 := HR.out.c 3 rfl
          have r4 := HR.out.c 4 rfl
          have r5 := HR.out.c 5 rfl
          have g0 := HR.out.f 0
          have g1 := HR.out.f 1
          have g2 := HR.out.f 2
          have g3 := HR.out.f 3
          have g4 := HR.out.f 4
          have g5 := HR.out.f 5
          go_wp2_with fail
          refine bodyPost_ret (v := .tuple #[.agg #[.int .i64 x, .int .i64 y, .int .i64 s, .int .i64 t, .slice z1 L1.length kk1, .slice z2 L2.length kk2], .bool false]) (by simp [results, Try.results15, go_sem, r0, r1, r2, r3, r4, r5]) rfl ⟨_, _, by rw [E.out], ?_, ?_, ?_⟩
          · exact put6 HO1.out HR.out (by decide) _ _ _ _ _ _
          · exact put6 HO2.out HR.out (by decide) _ _ _ _ _ _
          · exact below6 HB.out (Nat.le_succ_of_le (Nat.le_succ _)) _ _ _ _ _ _
end Go.Proofs.Ytgjebjoaemeeoaa.kit
