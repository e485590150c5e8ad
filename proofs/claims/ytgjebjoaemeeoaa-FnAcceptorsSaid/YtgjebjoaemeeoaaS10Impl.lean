/-
  Chapter 10: what the program's Prepare and Accept return.
-/
import Derived.Test.YtgjebjoaemeeoaaS10Box
namespace Go.Proofs.Ytgjebjoaemeeoaa.kit
open Go.ChangeShapes Go.WideShapes Go.ChangeAt Go.RowKit
set_option linter.unusedVariables false
set_option linter.unusedSimpArgs false

set_option maxRecDepth 100000 in
set_option maxHeartbeats 4000000 in
theorem implPrepare (x y s t : Int) (b1 b2 : Nat) (v1 v2 : Value) (L1 L2 : List Int) (n : Int) (w : World) (h1 : L1.length ≤ 1048576) (h2 : L2.length ≤ 1048576) (o1 : OwnI b1 w v1 L1) (o2 : OwnI b2 w v2 L2) :
    Calls Try.prog 10 #[.agg #[.int .i64 x, .int .i64 y, .int .i64 s, .int .i64 t, v1, v2], .int .i64 n] w fun e w' => ∃ u1 u2, e = .returned (.tuple #[.agg #[.int .i64 (prepX x y s t L1 L2 n), .int .i64 (same y), .int .i64 (same s), .int .i64 (same t), u1, u2], .bool (prepOk x y s t L1 L2 n)]) ∧ OwnI w.heap.size w' u1 (same L1) ∧ OwnI w.heap.size w' u2 (same L2) ∧ Below w.heap.size w w' ∧ Apart u1 u2 := by
  obtain ⟨W0, hW0⟩ : ∃ W, W = ((w.alloc (.cells #[.int .i64 x, .int .i64 y, .int .i64 s, .int .i64 t, v1, v2] 28)).alloc (.cells #[.int .i64 0, .int .i64 0, .int .i64 0, .int .i64 0, .slice none 0 0, .slice none 0 0] 28)).alloc (.cells #[.int .i32 0, .int .u32 0, .int .i64 x, .int .i64 y, .int .i64 s, .int .i64 t, v1, v2] 65) := ⟨_, rfl⟩
  have hA : Below w.heap.size w W0 := by rw [hW0]; exact (((Below.refl _ _).alloc (Nat.le_refl _) _).alloc (by simp) _).alloc (by simp; omega) _
  have HR := Lib.hid (show BoxC W0 (w.heap.size + 1) 28 #[.int .i64 0, .int .i64 0, .int .i64 0, .int .i64 0, .slice none 0 0, .slice none 0 0] by
    rw [hW0]
    have h := BoxC.new (w.alloc (.cells #[.int .i64 x, .int .i64 y, .int .i64 s, .int .i64 t, v1, v2] 28)) 28 #[.int .i64 0, .int .i64 0, .int .i64 0, .int .i64 0, .slice none 0 0, .slice none 0 0]
    rw [World.size_alloc] at h
    exact h.later ((Below.refl _ _).alloc (Nat.le_refl _) _))
  have HX := Lib.hid (show BoxC W0 (w.heap.size + 1 + 1) 65 #[.int .i32 0, .int .u32 0, .int .i64 x, .int .i64 y, .int .i64 s, .int .i64 t, v1, v2] by
    rw [hW0]
    have h := BoxC.new ((w.alloc (.cells #[.int .i64 x, .int .i64 y, .int .i64 s, .int .i64 t, v1, v2] 28)).alloc (.cells #[.int .i64 0, .int .i64 0, .int .i64 0, .int .i64 0, .slice none 0 0, .slice none 0 0] 28)) 65 #[.int .i32 0, .int .u32 0, .int .i64 x, .int .i64 y, .int .i64 s, .int .i64 t, v1, v2]
    rwa [World.size_alloc, World.size_alloc] at h)
  have HS1 := Lib.hid (o1.later hA)
  have HS2 := Lib.hid (o2.later hA)
  have J0 := Lib.hid (boxPrepare (w.heap.size + 1 + 1) x y s t b1 b2 v1 v2 L1 L2 n W0 (by omega) (by omega) HX.out HS1.out HS2.out)
  have hne1 := Lib.hid (row_clear HS1.out HX.out (by decide))
  have hne2 := Lib.hid (row_clear HS2.out HX.out (by decide))
  obtain ⟨y1, q1, rfl⟩ := o1.shape
  obtain ⟨y2, q2, rfl⟩ := o2.shape
  have HB := Lib.hid hA
  have HW0 := Lib.hid hW0
  clear hA hW0 o1 o2
  generalize prepOk x y s t L1 L2 n = R at *
  generalize prepX x y s t L1 L2 n = X at *
  go_enter Try.func10, Try.ntmps10
  go_wp2_with fail
  rw [← HW0.out]
  clear HW0
  refine J0.out.mono ?_
  rintro e w1 ⟨rfl, hx, hg⟩
  have hne : w.heap.size + 1 ≠ w.heap.size + 1 + 1 := Nat.ne_of_lt (Nat.lt_succ_self _)
  replace HR := Lib.hid (HR.out.grown hg hne)
  replace HS1 := Lib.hid (row_grown HS1.out hg hne1.out)
  replace HS2 := Lib.hid (row_grown HS2.out hg hne2.out)
  replace HB := Lib.hid (HB.out.grown hg HB.out.size (fun k hk => by cases hk; omega))
  have J1 := Lib.hid (boxAcceptor (w.heap.size + 1 + 1) X y s t b1 b2 _ _ L1 L2 w1 (by omega) (by omega) hx HS1.out HS2.out)
  clear hx hg J0 HX hne1 hne2
  go_wp2_with fail
  refine J1.out.mono ?_
  rintro e w2 ⟨u1, u2, rfl, ho1, ho2, hg, hap⟩
  obtain ⟨z1, k1, rfl⟩ := ho1.shape
  obtain ⟨z2, k2, rfl⟩ := ho2.shape
  have HAP := Lib.hid hap
  have HO1 := Lib.hid (ho1.mono HB.out.size)
  have HO2 := Lib.hid (ho2.mono HB.out.size)
  replace HR := Lib.hid (HR.out.grown hg hne)
  replace HB := Lib.hid (HB.out.grown hg HB.out.size (fun k hk => by cases hk; omega))
  clear ho1 ho2 hg hap J1 HS1 HS2
  have r0 := HR.out.c 0 rfl
  have r1 := HR.out.c 1 rfl
  have r2 := HR.out.c 2 rfl
  have r3 := HR.out.c 3 rfl
  have r4 := HR.out.c 4 rfl
  have r5 := HR.out.c 5 rfl
  have g0 := HR.out.f 0
  have g1 := HR.out.f 1
  have g2 := HR.out.f 2
  have g3 := HR.out.f 3
  have g4 := HR.out.f 4
  have g5 := HR.out.f 5
  go_wp2_with fail
  refine bodyPost_ret (v := .tuple #[.agg #[.int .i64 X, .int .i64 y, .int .i64 s, .int .i64 t, .slice z1 L1.length k1, .slice z2 L2.length k2], .bool R]) (by simp [results, Try.results10, go_sem, r0, r1, r2, r3, r4, r5]) rfl ⟨_, _, rfl, ?_, ?_, ?_, HAP.out⟩
  · exact put6 HO1.out HR.out (by decide) _ _ _ _ _ _
  · exact put6 HO2.out HR.out (by decide) _ _ _ _ _ _
  · exact below6 HB.out (Nat.le_succ _) _ _ _ _ _ _
set_option maxRecDepth 100000 in
set_option maxHeartbeats 4000000 in
theorem implAccept (x y s t : Int) (b1 b2 : Nat) (v1 v2 : Value) (L1 L2 : List Int) (n : Int) (s' t' : Int) (b3 b4 : Nat) (v3 v4 : Value) (M1 M2 : List Int) (w : World) (h1 : L1.length ≤ 1048576) (h2 : L2.length ≤ 1048576) (o1 : OwnI b1 w v1 L1) (o2 : OwnI b2 w v2 L2)
    (k1 : M1.length ≤ 1048576) (k2 : M2.length ≤ 1048576) (o3 : OwnI b3 w v3 M1) (o4 : OwnI b4 w v4 M2) :
    Calls Try.prog 14 #[.agg #[.int .i64 x, .int .i64 y, .int .i64 s, .int .i64 t, v1, v2], .int .i64 n, .agg #[.int .i64 s', .int .i64 t', v3, v4]] w fun e w' => ∃ u1 u2, e = .returned (.tuple #[.agg #[.int .i64 (acpX x y s t L1 L2 n s' t' M1 M2), .int .i64 (acpY x y s t L1 L2 n s' t' M1 M2), .int .i64 (acpS x y s t L1 L2 n s' t' M1 M2), .int .i64 (acpT x y s t L1 L2 n s' t' M1 M2), u1, u2], .bool (acpOk x y s t L1 L2 n s' t' M1 M2)]) ∧
      OwnI w.heap.size w' u1 (acpL1 x y s t L1 L2 n s' t' M1 M2) ∧ OwnI w.heap.size w' u2 (acpL2 x y s t L1 L2 n s' t' M1 M2) ∧ Below w.heap.size w w' ∧ Apart u1 u2 := by
  obtain ⟨WA, hWA⟩ : ∃ W, W = (w.alloc (.cells #[.int .i64 x, .int .i64 y, .int .i64 s, .int .i64 t, v1, v2] 28)).alloc (.cells #[.int .i64 s', .int .i64 t', v3, v4] 26) := ⟨_, rfl⟩
  have hWs : WA.heap.size = w.heap.size + 1 + 1 := by rw [hWA, World.size_alloc, World.size_alloc]
  have hA0 : Below w.heap.size w WA := by rw [hWA]; exact ((Below.refl _ _).alloc (Nat.le_refl _) _).alloc (by simp) _
  have hV0 : BoxC WA (w.heap.size + 1) 26 #[.int .i64 s', .int .i64 t', v3, v4] := by
    rw [hWA]
    have h := BoxC.new (w.alloc (.cells #[.int .i64 x, .int .i64 y, .int .i64 s, .int .i64 t, v1, v2] 28)) 26 #[.int .i64 s', .int .i64 t', v3, v4]
    rwa [World.size_alloc] at h
  obtain ⟨W0, hW0⟩ : ∃ W, W = (WA.alloc (.cells #[.int .i64 0, .int .i64 0, .int .i64 0, .int .i64 0, .slice none 0 0, .slice none 0 0] 28)).alloc (.cells #[.int .i32 0, .int .u32 0, .int .i64 x, .int .i64 y, .int .i64 s, .int .i64 t, v1, v2] 65) := ⟨_, rfl⟩
  have hA : Below w.heap.size w W0 := by rw [hW0]; exact (hA0.alloc hA0.size _).alloc (by simp; omega) _
  have HV := Lib.hid (show BoxC W0 (w.heap.size + 1) 26 #[.int .i64 s', .int .i64 t', v3, v4] by
    rw [hW0]
    exact (hV0.later ((Below.refl _ _).alloc (Nat.le_refl _) _)).later ((Below.refl _ _).alloc (Nat.le_refl _) _))
  have HR := Lib.hid (show BoxC W0 (w.heap.size + 1 + 1) 28 #[.int .i64 0, .int .i64 0, .int .i64 0, .int .i64 0, .slice none 0 0, .slice none 0 0] by
    rw [hW0]
    have h := BoxC.new WA 28 #[.int .i64 0, .int .i64 0, .int .i64 0, .int .i64 0, .slice none 0 0, .slice none 0 0]
    rw [hWs] at h
    exact h.later ((Below.refl _ _).alloc (Nat.le_refl _) _))
  have HX := Lib.hid (show BoxC W0 (w.heap.size + 1 + 1 + 1) 65 #[.int .i32 0, .int .u32 0, .int .i64 x, .int .i64 y, .int .i64 s, .int .i64 t, v1, v2] by
    rw [hW0]
    have h := BoxC.new (WA.alloc (.cells #[.int .i64 0, .int .i64 0, .int .i64 0, .int .i64 0, .slice none 0 0, .slice none 0 0] 28)) 65 #[.int .i32 0, .int .u32 0, .int .i64 x, .int .i64 y, .int .i64 s, .int .i64 t, v1, v2]
    rwa [World.size_alloc, hWs] at h)
  rw [hWA] at hW0
  have J0 := Lib.hid (boxAccept (w.heap.size + 1 + 1 + 1) x y s t b1 b2 v1 v2 L1 L2 n s' t' b3 b4 v3 v4 M1 M2 W0 (by omega) (by omega) (by omega) (by omega) HX.out (o1.later hA) (o2.later hA) (o3.later hA) (o4.later hA))
  have hl1 := acpL1_len x y s t L1 L2 n s' t' M1 M2 (n := 4194304) (by omega) (by omega)
  have hl2 := acpL2_len x y s t L1 L2 n s' t' M1 M2 (n := 4194304) (by omega) (by omega)
  obtain ⟨y1, q1, rfl⟩ := o1.shape
  obtain ⟨y2, q2, rfl⟩ := o2.shape
  obtain ⟨y3, q3, rfl⟩ := o3.shape
  obtain ⟨y4, q4, rfl⟩ := o4.shape
  have HB := Lib.hid hA
  have HW0 := Lib.hid hW0
  clear hA hW0 hA0 hV0 hWA hWs o1 o2 o3 o4
  generalize acpOk x y s t L1 L2 n s' t' M1 M2 = R at *
  generalize acpX x y s t L1 L2 n s' t' M1 M2 = X1 at *
  generalize acpY x y s t L1 L2 n s' t' M1 M2 = X2 at *
  generalize acpS x y s t L1 L2 n s' t' M1 M2 = X3 at *
  generalize acpT x y s t L1 L2 n s' t' M1 M2 = X4 at *
  generalize acpL1 x y s t L1 L2 n s' t' M1 M2 = X5 at *
  generalize acpL2 x y s t L1 L2 n s' t' M1 M2 = X6 at *
  go_enter Try.func14, Try.ntmps14
  go_upto_region 2 with (fail)
  rw [← HW0.out]
  clear HW0
  have d0 := HV.out.c 0 rfl
  have d1 := HV.out.c 1 rfl
  have d2 := HV.out.c 2 rfl
  have d3 := HV.out.c 3 rfl
  go_wp2_with fail
  refine J0.out.mono ?_
  rintro e w1 ⟨u1, u2, rfl, hx, ⟨e1, ho1⟩, ⟨e2, ho2⟩, hg⟩
  have hne : w.heap.size + 1 + 1 ≠ w.heap.size + 1 + 1 + 1 := Nat.ne_of_lt (Nat.lt_succ_self _)
  replace HR := Lib.hid (HR.out.grown hg hne)
  replace HB := Lib.hid (HB.out.grown hg HB.out.size (fun k hk => by cases hk; omega))
  have J1 := Lib.hid (boxAcceptor (w.heap.size + 1 + 1 + 1) X1 X2 X3 X4 e1 e2 _ _ X5 X6 w1 hl1 hl2 hx ho1 ho2)
  clear hx hg J0 HX HV ho1 ho2 d0 d1 d2 d3
  go_wp2_with fail
  refine J1.out.mono ?_
  rintro e w2 ⟨u1, u2, rfl, ho1, ho2, hg, hap⟩
  obtain ⟨z1, k1, rfl⟩ := ho1.shape
  obtain ⟨z2, k2, rfl⟩ := ho2.shape
  have HAP := Lib.hid hap
  have HO1 := Lib.hid (ho1.mono HB.out.size)
  have HO2 := Lib.hid (ho2.mono HB.out.size)
  replace HR := Lib.hid (HR.out.grown hg hne)
  replace HB := Lib.hid (HB.out.grown hg HB.out.size (fun k hk => by cases hk; omega))
  clear ho1 ho2 hg hap J1
  have r0 := HR.out.c 0 rfl
  have r1 := HR.out.c 1 rfl
  have r2 := HR.out.c 2 rfl
  have r3 := HR.out.c 3 rfl
  have r4 := HR.out.c 4 rfl
  have r5 := HR.out.c 5 rfl
  have g0 := HR.out.f 0
  have g1 := HR.out.f 1
  have g2 := HR.out.f 2
  have g3 := HR.out.f 3
  have g4 := HR.out.f 4
  have g5 := HR.out.f 5
  go_wp2_with fail
  refine bodyPost_ret (v := .tuple #[.agg #[.int .i64 X1, .int .i64 X2, .int .i64 X3, .int .i64 X4, .slice z1 X5.length k1, .slice z2 X6.length k2], .bool R]) (by simp [results, Try.results14, go_sem, r0, r1, r2, r3, r4, r5]) rfl ⟨_, _, rfl, ?_, ?_, ?_, HAP.out⟩
  · exact put6 HO1.out HR.out (by decide) _ _ _ _ _ _
  · exact put6 HO2.out HR.out (by decide) _ _ _ _ _ _
  · exact below6 HB.out (Nat.le_succ_of_le (Nat.le_succ _)) _ _ _ _ _ _
end Go.Proofs.Ytgjebjoaemeeoaa.kit
