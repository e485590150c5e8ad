/-
  The law of acceptors, walked: for every code.
-/
import Derived.Test.YtgjebjoaemeeoaaS10Impl
import Derived.Test.YtgjebjoaemeeoaaS10Draw2
import Derived.Test.YtgjebjoaemeeoaaLater
import Derived.Test.YtgjebjoaemeeoaaBig
import Derived.Deep.DeepCutAuto
import Derived.Deep.RegionWith
namespace Go.Proofs.Ytgjebjoaemeeoaa.fnAcceptors
open Go.ChangeShapes Go.WideShapes Go.ChangeAt Go.RowKit
open Go.ChangeMaps (open_string shut_string)
open kit
set_option linter.unusedVariables false
set_option linter.unusedSimpArgs false

theorem prepare_yes {x y s t : Int} {L1 L2 : List Int} {n : Int} (h : prepOk x y s t L1 L2 n = true) : prepX x y s t L1 L2 n = n := if_pos h
theorem accept_yes {x y s t : Int} {L1 L2 : List Int} {n s' t' : Int} {M1 M2 : List Int} (h : acpOk x y s t L1 L2 n s' t' M1 M2 = true) : acpX x y s t L1 L2 n s' t' M1 M2 = n ∧ acpY x y s t L1 L2 n s' t' M1 M2 = n ∧ acpS x y s t L1 L2 n s' t' M1 M2 = s' ∧ acpT x y s t L1 L2 n s' t' M1 M2 = t' ∧ acpL1 x y s t L1 L2 n s' t' M1 M2 = M1 ∧ acpL2 x y s t L1 L2 n s' t' M1 M2 = M2 ∧ x ≤ n := by
  refine ⟨acpSel_yes h _ _, acpSel_yes h _ _, acpSel_yes h _ _, acpSel_yes h _ _, acpSel_yes h _ _, acpSel_yes h _ _, ?_⟩
  unfold acpOk at h
  simp only [Bool.and_eq_true, decide_eq_true_eq] at h
  exact h.2.2.2
theorem implPrepareP (x y s t : Int) (b1 b2 : Nat) (v1 v2 : Value) (L1 L2 : List Int) (n : Int) (w : World) (h1 : L1.length ≤ 1048576) (h2 : L2.length ≤ 1048576) (o1 : OwnI b1 w v1 L1) (o2 : OwnI b2 w v2 L2) :
    Calls Try.prog 10 #[.agg #[.int .i64 x, .int .i64 y, .int .i64 s, .int .i64 t, v1, v2], .int .i64 n] w fun e w' => ∃ u1 u2, e = .returned (.tuple #[.agg #[.int .i64 (prepX x y s t L1 L2 n), .int .i64 y, .int .i64 s, .int .i64 t, u1, u2], .bool (prepOk x y s t L1 L2 n)]) ∧ OwnI w.heap.size w' u1 L1 ∧ OwnI w.heap.size w' u2 L2 ∧ Below w.heap.size w w' :=
  (implPrepare x y s t b1 b2 v1 v2 L1 L2 n w h1 h2 o1 o2).mono fun e w' ⟨u1, u2, he, k1, k2, hb, _⟩ => ⟨u1, u2, he, k1, k2, hb⟩
theorem specPrepareP (x y s t : Int) (b1 b2 : Nat) (v1 v2 : Value) (L1 L2 : List Int) (n : Int) (w : World) (h1 : L1.length ≤ 1048576) (h2 : L2.length ≤ 1048576) (o1 : OwnI b1 w v1 L1) (o2 : OwnI b2 w v2 L2) :
    Calls Try.prog 11 #[.agg #[.int .i64 x, .int .i64 y, .int .i64 s, .int .i64 t, v1, v2], .int .i64 n] w fun e w' => ∃ u1 u2, e = .returned (.tuple #[.agg #[.int .i64 (prepX x y s t L1 L2 n), .int .i64 y, .int .i64 s, .int .i64 t, u1, u2], .bool (prepOk x y s t L1 L2 n)]) ∧ OwnI w.heap.size w' u1 L1 ∧ OwnI w.heap.size w' u2 L2 ∧ Below w.heap.size w w' :=
  (specPrepare x y s t b1 b2 v1 v2 L1 L2 n w h1 h2 o1 o2).mono fun e w' ⟨u1, u2, he, k1, k2, hb⟩ => ⟨u1, u2, he, k1, k2, hb⟩
set_option maxRecDepth 100000 in
set_option maxHeartbeats 16000000 in
theorem walk (a0 : Option Addr) (len0 cap0 : Nat) (z0 : List Int) (w : World) (w0 : IsRow .u8 w a0 len0 cap0 z0) :
    Calls Try.prog 3 #[.slice a0 len0 cap0] w fun e w' => e = .returned (.bool true) ∧ Below w.heap.size w w' := by
  have hl : len0 ≤ 9223372036854775807 := by
    rcases w0 with ⟨_, h, _⟩ | ⟨_, _, h1, h2, _⟩
    · omega
    · unfold maxLen at h2; omega
  have hcode := Lib.hid (code_of_row w0)
  clear w0
  by_cases hbig : 1048576 < len0
  · have CB := Lib.hid (big_yes a0 len0 cap0 w hbig hl)
    clear hbig
    go_enter Try.func3, Try.ntmps3
    go_wp2_with fail
    refine (CB.out).mono ?_
    rintro e w1 ⟨rfl, rfl⟩
    go_wp2_with fail
    go_ret
    exact ⟨rfl, Below.refl _ _⟩
  · have CB := Lib.hid (big_no a0 len0 cap0 w hbig)
    have CD := Lib.hid (drawPrepare a0 len0 cap0 z0 w hcode.out)
    clear hbig hl
    go_enter Try.func3, Try.ntmps3
    go_wp2_with fail
    refine (CB.out).mono ?_
    rintro e w1 ⟨rfl, rfl⟩
    go_wp2_with fail
    refine (CD.out).mono ?_
    rintro e w2 ⟨x, y, s, t, u1, u2, R1, R2, n, rfl, hl1, hl2, ho1, ho2, hb2⟩
    obtain ⟨a1, c1, rfl⟩ := ho1.shape
    obtain ⟨a2, c2, rfl⟩ := ho2.shape
    have hbA := (Below.refl w2.heap.size w2).alloc (Nat.le_refl _) (.cells #[.int .i64 x, .int .i64 y, .int .i64 s, .int .i64 t, .slice a1 R1.length c1, .slice a2 R2.length c2] 28)
    obtain ⟨w3, hw3⟩ : ∃ q, q = w2.alloc (.cells #[.int .i64 x, .int .i64 y, .int .i64 s, .int .i64 t, .slice a1 R1.length c1, .slice a2 R2.length c2] 28) := ⟨_, rfl⟩
    obtain ⟨p, hp⟩ : ∃ q, q = w2.heap.size := ⟨_, rfl⟩
    have HA := Lib.hid (show BoxC w3 p 28 #[.int .i64 x, .int .i64 y, .int .i64 s, .int .i64 t, .slice a1 R1.length c1, .slice a2 R2.length c2] by rw [hw3, hp]; exact BoxC.new _ _ _)
    have HO1 := Lib.hid (show OwnI w.heap.size w3 (.slice a1 R1.length c1) R1 by rw [hw3]; exact ho1.later hbA)
    have HO2 := Lib.hid (show OwnI w.heap.size w3 (.slice a2 R2.length c2) R2 by rw [hw3]; exact ho2.later hbA)
    have HB := Lib.hid (show Below w.heap.size w w3 by rw [hw3]; exact hb2.trans (hbA.mono hb2.size))
    have HW := Lib.hid hw3
    have HP := Lib.hid hp
    clear CB CD ho1 ho2 hb2 hbA hw3 hp
    have J1 := Lib.hid (implPrepareP x y s t _ _ _ _ R1 R2 n w3 (by omega) (by omega) HO1.out HO2.out)
    have J2 := Lib.hid (fun W h1 h2 => specPrepareP x y s t w.heap.size w.heap.size (.slice a1 R1.length c1) (.slice a2 R2.length c2) R1 R2 n W (by omega) (by omega) h1 h2)
    have J3 := Lib.hid (fun W h1 h2 => implIsValidAcceptor x y s t w.heap.size w.heap.size (.slice a1 R1.length c1) (.slice a2 R2.length c2) R1 R2 W (by omega) (by omega) h1 h2)
    have J4 := Lib.hid (fun W h1 h2 => specIsValidAcceptor x y s t w.heap.size w.heap.size (.slice a1 R1.length c1) (.slice a2 R2.length c2) R1 R2 W (by omega) (by omega) h1 h2)
    have HPX := Lib.hid (fun h => prepare_yes (x := x) (y := y) (s := s) (t := t) (L1 := R1) (L2 := R2) (n := n) h)
    generalize prepX x y s t R1 R2 n = X at *
    generalize prepOk x y s t R1 R2 n = ok at *
    generalize accOk x y s t R1 R2 = va at *
    go_upto_region 4 with (fail)
    rw [← HW.out, ← HP.out]
    clear HW HP
    have k0 := HA.out.c 0 rfl
    have k1 := HA.out.c 1 rfl
    have k2 := HA.out.c 2 rfl
    have k3 := HA.out.c 3 rfl
    have k4 := HA.out.c 4 rfl
    have k5 := HA.out.c 5 rfl
    go_wp2_with fail
    refine J1.out.mono ?_
    rintro e w4 ⟨v1, v2, rfl, ho3, ho4, hb⟩
    obtain ⟨a3, c3, rfl⟩ := ho3.shape
    obtain ⟨a4, c4, rfl⟩ := ho4.shape
    have HS3 := Lib.hid ho3
    have HS4 := Lib.hid ho4
    replace HA := Lib.hid (HA.out.later hb)
    replace HO1 := Lib.hid (HO1.out.later hb)
    replace HO2 := Lib.hid (HO2.out.later hb)
    replace HB := Lib.hid (HB.out.trans (hb.mono HB.out.size))
    clear hb ho3 ho4 J1 k0 k1 k2 k3 k4 k5
    have hb := (Below.refl w4.heap.size w4).alloc (Nat.le_refl _) (.cells #[.int .i64 X, .int .i64 y, .int .i64 s, .int .i64 t, .slice a3 R1.length c3, .slice a4 R2.length c4] 28)
    obtain ⟨w5, hw5⟩ : ∃ q, q = w4.alloc (.cells #[.int .i64 X, .int .i64 y, .int .i64 s, .int .i64 t, .slice a3 R1.length c3, .slice a4 R2.length c4] 28) := ⟨_, rfl⟩
    obtain ⟨p5, hp5⟩ : ∃ q, q = w4.heap.size := ⟨_, rfl⟩
    have HX := Lib.hid (show BoxC w5 p5 28 #[.int .i64 X, .int .i64 y, .int .i64 s, .int .i64 t, .slice a3 R1.length c3, .slice a4 R2.length c4] by rw [hw5, hp5]; exact BoxC.new _ _ _)
    rw [← hw5] at hb
    replace HA := Lib.hid (HA.out.later hb)
    replace HO1 := Lib.hid (HO1.out.later hb)
    replace HO2 := Lib.hid (HO2.out.later hb)
    replace HB := Lib.hid (HB.out.trans (hb.mono HB.out.size))
    replace HS3 := Lib.hid (HS3.out.later hb)
    replace HS4 := Lib.hid (HS4.out.later hb)
    have HW := Lib.hid hw5
    have HP := Lib.hid hp5
    clear hb hw5 hp5
    go_upto_region 5 with (fail)
    rw [← HW.out, ← HP.out]
    clear HW HP
    have k0 := HA.out.c 0 rfl
    have k1 := HA.out.c 1 rfl
    have k2 := HA.out.c 2 rfl
    have k3 := HA.out.c 3 rfl
    have k4 := HA.out.c 4 rfl
    have k5 := HA.out.c 5 rfl
    go_wp2_with fail
    refine (J2.out _ HO1.out HO2.out).mono ?_
    rintro e w6 ⟨v1, v2, rfl, ho5, ho6, hb⟩
    obtain ⟨a5, c5, rfl⟩ := ho5.shape
    obtain ⟨a6, c6, rfl⟩ := ho6.shape
    have HS5 := Lib.hid ho5
    have HS6 := Lib.hid ho6
    replace HA := Lib.hid (HA.out.later hb)
    replace HO1 := Lib.hid (HO1.out.later hb)
    replace HO2 := Lib.hid (HO2.out.later hb)
    replace HB := Lib.hid (HB.out.trans (hb.mono HB.out.size))
    replace HX := Lib.hid (HX.out.later hb)
    replace HS3 := Lib.hid (HS3.out.later hb)
    replace HS4 := Lib.hid (HS4.out.later hb)
    clear hb ho5 ho6 J2 k0 k1 k2 k3 k4 k5
    have hb := (Below.refl w6.heap.size w6).alloc (Nat.le_refl _) (.cells #[.int .i64 X, .int .i64 y, .int .i64 s, .int .i64 t, .slice a5 R1.length c5, .slice a6 R2.length c6] 28)
    obtain ⟨w7, hw7⟩ : ∃ q, q = w6.alloc (.cells #[.int .i64 X, .int .i64 y, .int .i64 s, .int .i64 t, .slice a5 R1.length c5, .slice a6 R2.length c6] 28) := ⟨_, rfl⟩
    obtain ⟨p7, hp7⟩ : ∃ q, q = w6.heap.size := ⟨_, rfl⟩
    have HY := Lib.hid (show BoxC w7 p7 28 #[.int .i64 X, .int .i64 y, .int .i64 s, .int .i64 t, .slice a5 R1.length c5, .slice a6 R2.length c6] by rw [hw7, hp7]; exact BoxC.new _ _ _)
    rw [← hw7] at hb
    replace HA := Lib.hid (HA.out.later hb)
    replace HO1 := Lib.hid (HO1.out.later hb)
    replace HO2 := Lib.hid (HO2.out.later hb)
    replace HB := Lib.hid (HB.out.trans (hb.mono HB.out.size))
    replace HX := Lib.hid (HX.out.later hb)
    replace HS3 := Lib.hid (HS3.out.later hb)
    replace HS4 := Lib.hid (HS4.out.later hb)
    replace HS5 := Lib.hid (HS5.out.later hb)
    replace HS6 := Lib.hid (HS6.out.later hb)
    have HW := Lib.hid hw7
    have HP := Lib.hid hp7
    clear hb hw7 hp7
    have j5 := implEqualAcceptors X y s t _ _ _ _ R1 R2 X y s t _ _ _ _ R1 R2 w7 (by omega) (by omega) HS3.out HS4.out (by omega) (by omega) HS5.out HS6.out
    simp only [and_self, decide_true] at j5
    have J5 := Lib.hid j5
    clear j5
    go_upto_region 6 with (fail)
    rw [← HW.out, ← HP.out]
    clear HW HP
    go_cut [59] (fun b wx => b = .bool false ∧ Below w7.heap.size w7 wx)
    case first =>
      have x0 := HX.out.c 0 rfl
      have x1 := HX.out.c 1 rfl
      have x2 := HX.out.c 2 rfl
      have x3 := HX.out.c 3 rfl
      have x4 := HX.out.c 4 rfl
      have x5 := HX.out.c 5 rfl
      have y0 := HY.out.c 0 rfl
      have y1 := HY.out.c 1 rfl
      have y2 := HY.out.c 2 rfl
      have y3 := HY.out.c 3 rfl
      have y4 := HY.out.c 4 rfl
      have y5 := HY.out.c 5 rfl
      cases ok with
      | false =>
        go_wp2_with fail
        refine J5.out.mono ?_
        rintro e w8 ⟨rfl, hb⟩
        clear J5 x0 x1 x2 x3 x4 x5 y0 y1 y2 y3 y4 y5
        go_wp2_with fail
        go_meet
        exact ⟨rfl, hb⟩
      | true =>
        obtain rfl := HPX.out rfl
        go_wp2_with fail
        refine J5.out.mono ?_
        rintro e w8 ⟨rfl, hb⟩
        replace HA := Lib.hid (HA.out.later hb)
        replace HX := Lib.hid (HX.out.later hb)
        have HBB := Lib.hid hb
        clear hb J5 x0 x1 x2 x3 x4 x5 y0 y1 y2 y3 y4 y5
        have x0 := HX.out.c 0 rfl
        have x1 := HX.out.c 1 rfl
        have k0 := HA.out.c 0 rfl
        have k1 := HA.out.c 1 rfl
        have k2 := HA.out.c 2 rfl
        have k3 := HA.out.c 3 rfl
        have k4 := HA.out.c 4 rfl
        have k5 := HA.out.c 5 rfl
        have t1 : (y != y) = false := by simp
        go_wp2_with fail
        go_meet
        exact ⟨rfl, HBB.out⟩
    case rest =>
      obtain ⟨rfl, hb⟩ := hcut
      replace HA := Lib.hid (HA.out.later hb)
      replace HO1 := Lib.hid (HO1.out.later hb)
      replace HO2 := Lib.hid (HO2.out.later hb)
      replace HB := Lib.hid (HB.out.trans (hb.mono HB.out.size))
      clear hb HX HY HS3 HS4 HS5 HS6 J5 HPX
      have CD := Lib.hid (drawAccept a0 len0 cap0 z0 wc (hcode.out.below HB.out))
      go_wp2_with fail
      refine CD.out.mono ?_
      rintro e w9 ⟨x', y', s', t', v1, v2, Q1, Q2, n', s2, t2, v3, v4, M1, M2, rfl, hq1, hq2, hm1, hm2, ho1, ho2, ho3, ho4, hb⟩
      obtain ⟨b1, d1, rfl⟩ := ho1.shape
      obtain ⟨b2, d2, rfl⟩ := ho2.shape
      obtain ⟨b3, d3, rfl⟩ := ho3.shape
      obtain ⟨b4, d4, rfl⟩ := ho4.shape
      have hs := HB.out.size
      have HQ1 := Lib.hid (ho1.mono hs)
      have HQ2 := Lib.hid (ho2.mono hs)
      have HM1 := Lib.hid (ho3.mono hs)
      have HM2 := Lib.hid (ho4.mono hs)
      replace HA := Lib.hid (HA.out.later hb)
      replace HO1 := Lib.hid (HO1.out.later hb)
      replace HO2 := Lib.hid (HO2.out.later hb)
      replace HB := Lib.hid (HB.out.trans (hb.mono HB.out.size))
      clear hb hs ho1 ho2 ho3 ho4 CD
      obtain ⟨w10, hw10⟩ : ∃ q, q = (w9.alloc (.cells #[.int .i64 x', .int .i64 y', .int .i64 s', .int .i64 t', .slice b1 Q1.length d1, .slice b2 Q2.length d2] 28)).alloc (.cells #[.int .i64 s2, .int .i64 t2, .slice b3 M1.length d3, .slice b4 M2.length d4] 26) := ⟨_, rfl⟩
      obtain ⟨p9, hp9⟩ : ∃ q, q = w9.heap.size := ⟨_, rfl⟩
      have hb : Below w9.heap.size w9 w10 := by rw [hw10]; exact ((Below.refl _ _).alloc (Nat.le_refl _) _).alloc (by simp) _
      have HE := Lib.hid (show BoxC w10 p9 28 #[.int .i64 x', .int .i64 y', .int .i64 s', .int .i64 t', .slice b1 Q1.length d1, .slice b2 Q2.length d2] by rw [hw10, hp9]; exact (BoxC.new _ _ _).later ((Below.refl _ _).alloc (Nat.le_refl _) _))
      have HV := Lib.hid (show BoxC w10 (p9 + 1) 26 #[.int .i64 s2, .int .i64 t2, .slice b3 M1.length d3, .slice b4 M2.length d4] by
        rw [hw10, hp9]
        have h := BoxC.new (w9.alloc (.cells #[.int .i64 x', .int .i64 y', .int .i64 s', .int .i64 t', .slice b1 Q1.length d1, .slice b2 Q2.length d2] 28)) 26 #[.int .i64 s2, .int .i64 t2, .slice b3 M1.length d3, .slice b4 M2.length d4]
        rwa [World.size_alloc] at h)
      replace HA := Lib.hid (HA.out.later hb)
      replace HO1 := Lib.hid (HO1.out.later hb)
      replace HO2 := Lib.hid (HO2.out.later hb)
      replace HB := Lib.hid (HB.out.trans (hb.mono HB.out.size))
      replace HQ1 := Lib.hid (HQ1.out.later hb)
      replace HQ2 := Lib.hid (HQ2.out.later hb)
      replace HM1 := Lib.hid (HM1.out.later hb)
      replace HM2 := Lib.hid (HM2.out.later hb)
      have HW := Lib.hid hw10
      have HP := Lib.hid hp9
      clear hb hw10 hp9
      have J1 := Lib.hid (implAccept x' y' s' t' _ _ _ _ Q1 Q2 n' s2 t2 _ _ _ _ M1 M2 w10 (by omega) (by omega) HQ1.out HQ2.out (by omega) (by omega) HM1.out HM2.out)
      have J2 := Lib.hid (fun W h1 h2 h3 h4 => specAccept x' y' s' t' w.heap.size w.heap.size (.slice b1 Q1.length d1) (.slice b2 Q2.length d2) Q1 Q2 n' s2 t2 w.heap.size w.heap.size (.slice b3 M1.length d3) (.slice b4 M2.length d4) M1 M2 W (by omega) (by omega) h1 h2 (by omega) (by omega) h3 h4)
      have HYes := Lib.hid (fun h => accept_yes (x := x') (y := y') (s := s') (t := t') (L1 := Q1) (L2 := Q2) (n := n') (s' := s2) (t' := t2) (M1 := M1) (M2 := M2) h)
      have hx5 := acpL1_len x' y' s' t' Q1 Q2 n' s2 t2 M1 M2 (n := 6) (by omega) (by omega)
      have hx6 := acpL2_len x' y' s' t' Q1 Q2 n' s2 t2 M1 M2 (n := 6) (by omega) (by omega)
      generalize acpOk x' y' s' t' Q1 Q2 n' s2 t2 M1 M2 = ok2 at *
      generalize acpX x' y' s' t' Q1 Q2 n' s2 t2 M1 M2 = X1 at *
      generalize acpY x' y' s' t' Q1 Q2 n' s2 t2 M1 M2 = X2 at *
      generalize acpS x' y' s' t' Q1 Q2 n' s2 t2 M1 M2 = X3 at *
      generalize acpT x' y' s' t' Q1 Q2 n' s2 t2 M1 M2 = X4 at *
      generalize acpL1 x' y' s' t' Q1 Q2 n' s2 t2 M1 M2 = X5 at *
      generalize acpL2 x' y' s' t' Q1 Q2 n' s2 t2 M1 M2 = X6 at *
      go_upto_region 9 with (fail)
      rw [← HW.out, ← HP.out]
      clear HW HP
      have e0 := HE.out.c 0 rfl
      have e1 := HE.out.c 1 rfl
      have e2 := HE.out.c 2 rfl
      have e3 := HE.out.c 3 rfl
      have e4 := HE.out.c 4 rfl
      have e5 := HE.out.c 5 rfl
      have i0 := HV.out.c 0 rfl
      have i1 := HV.out.c 1 rfl
      have i2 := HV.out.c 2 rfl
      have i3 := HV.out.c 3 rfl
      go_wp2_with fail
      refine J1.out.mono ?_
      rintro e w11 ⟨r1, r2, rfl, ho1, ho2, hb, _⟩
      obtain ⟨a3, c3, rfl⟩ := ho1.shape
      obtain ⟨a4, c4, rfl⟩ := ho2.shape
      have HS1 := Lib.hid ho1
      have HS2 := Lib.hid ho2
      replace HE := Lib.hid (HE.out.later hb)
      replace HV := Lib.hid (HV.out.later hb)
      replace HA := Lib.hid (HA.out.later hb)
      replace HO1 := Lib.hid (HO1.out.later hb)
      replace HO2 := Lib.hid (HO2.out.later hb)
      replace HB := Lib.hid (HB.out.trans (hb.mono HB.out.size))
      replace HQ1 := Lib.hid (HQ1.out.later hb)
      replace HQ2 := Lib.hid (HQ2.out.later hb)
      replace HM1 := Lib.hid (HM1.out.later hb)
      replace HM2 := Lib.hid (HM2.out.later hb)
      clear hb ho1 ho2 J1 e0 e1 e2 e3 e4 e5 i0 i1 i2 i3
      have hb := (Below.refl w11.heap.size w11).alloc (Nat.le_refl _) (.cells #[.int .i64 X1, .int .i64 X2, .int .i64 X3, .int .i64 X4, .slice a3 X5.length c3, .slice a4 X6.length c4] 28)
      obtain ⟨w12, hw12⟩ : ∃ q, q = w11.alloc (.cells #[.int .i64 X1, .int .i64 X2, .int .i64 X3, .int .i64 X4, .slice a3 X5.length c3, .slice a4 X6.length c4] 28) := ⟨_, rfl⟩
      obtain ⟨p12, hp12⟩ : ∃ q, q = w11.heap.size := ⟨_, rfl⟩
      have HZ := Lib.hid (show BoxC w12 p12 28 #[.int .i64 X1, .int .i64 X2, .int .i64 X3, .int .i64 X4, .slice a3 X5.length c3, .slice a4 X6.length c4] by rw [hw12, hp12]; exact BoxC.new _ _ _)
      rw [← hw12] at hb
      replace HA := Lib.hid (HA.out.later hb)
      replace HO1 := Lib.hid (HO1.out.later hb)
      replace HO2 := Lib.hid (HO2.out.later hb)
      replace HB := Lib.hid (HB.out.trans (hb.mono HB.out.size))
      replace HQ1 := Lib.hid (HQ1.out.later hb)
      replace HQ2 := Lib.hid (HQ2.out.later hb)
      replace HM1 := Lib.hid (HM1.out.later hb)
      replace HM2 := Lib.hid (HM2.out.later hb)
      replace HE := Lib.hid (HE.out.later hb)
      replace HV := Lib.hid (HV.out.later hb)
      replace HS1 := Lib.hid (HS1.out.later hb)
      replace HS2 := Lib.hid (HS2.out.later hb)
      have HW := Lib.hid hw12
      have HP := Lib.hid hp12
      clear hb hw12 hp12
      go_upto_region 10 with (fail)
      rw [← HW.out, ← HP.out]
      clear HW HP
      have e0 := HE.out.c 0 rfl
      have e1 := HE.out.c 1 rfl
      have e2 := HE.out.c 2 rfl
      have e3 := HE.out.c 3 rfl
      have e4 := HE.out.c 4 rfl
      have e5 := HE.out.c 5 rfl
      have i0 := HV.out.c 0 rfl
      have i1 := HV.out.c 1 rfl
      have i2 := HV.out.c 2 rfl
      have i3 := HV.out.c 3 rfl
      go_wp2_with fail
      refine (J2.out _ HQ1.out HQ2.out HM1.out HM2.out).mono ?_
      rintro e w13 ⟨r1, r2, rfl, ho1, ho2, hb⟩
      obtain ⟨a5, c5, rfl⟩ := ho1.shape
      obtain ⟨a6, c6, rfl⟩ := ho2.shape
      have HS3 := Lib.hid ho1
      have HS4 := Lib.hid ho2
      replace HA := Lib.hid (HA.out.later hb)
      replace HO1 := Lib.hid (HO1.out.later hb)
      replace HO2 := Lib.hid (HO2.out.later hb)
      replace HB := Lib.hid (HB.out.trans (hb.mono HB.out.size))
      replace HQ1 := Lib.hid (HQ1.out.later hb)
      replace HQ2 := Lib.hid (HQ2.out.later hb)
      replace HM1 := Lib.hid (HM1.out.later hb)
      replace HM2 := Lib.hid (HM2.out.later hb)
      replace HE := Lib.hid (HE.out.later hb)
      replace HV := Lib.hid (HV.out.later hb)
      replace HZ := Lib.hid (HZ.out.later hb)
      replace HS1 := Lib.hid (HS1.out.later hb)
      replace HS2 := Lib.hid (HS2.out.later hb)
      clear hb ho1 ho2 J2 e0 e1 e2 e3 e4 e5 i0 i1 i2 i3
      have hb := (Below.refl w13.heap.size w13).alloc (Nat.le_refl _) (.cells #[.int .i64 X1, .int .i64 X2, .int .i64 X3, .int .i64 X4, .slice a5 X5.length c5, .slice a6 X6.length c6] 28)
      obtain ⟨wk, hwk⟩ : ∃ q, q = w13.alloc (.cells #[.int .i64 X1, .int .i64 X2, .int .i64 X3, .int .i64 X4, .slice a5 X5.length c5, .slice a6 X6.length c6] 28) := ⟨_, rfl⟩
      obtain ⟨p14, hp14⟩ : ∃ q, q = w13.heap.size := ⟨_, rfl⟩
      have HY := Lib.hid (show BoxC wk p14 28 #[.int .i64 X1, .int .i64 X2, .int .i64 X3, .int .i64 X4, .slice a5 X5.length c5, .slice a6 X6.length c6] by rw [hwk, hp14]; exact BoxC.new _ _ _)
      rw [← hwk] at hb
      replace HA := Lib.hid (HA.out.later hb)
      replace HO1 := Lib.hid (HO1.out.later hb)
      replace HO2 := Lib.hid (HO2.out.later hb)
      replace HB := Lib.hid (HB.out.trans (hb.mono HB.out.size))
      replace HQ1 := Lib.hid (HQ1.out.later hb)
      replace HQ2 := Lib.hid (HQ2.out.later hb)
      replace HM1 := Lib.hid (HM1.out.later hb)
      replace HM2 := Lib.hid (HM2.out.later hb)
      replace HE := Lib.hid (HE.out.later hb)
      replace HV := Lib.hid (HV.out.later hb)
      replace HZ := Lib.hid (HZ.out.later hb)
      replace HS1 := Lib.hid (HS1.out.later hb)
      replace HS2 := Lib.hid (HS2.out.later hb)
      replace HS3 := Lib.hid (HS3.out.later hb)
      replace HS4 := Lib.hid (HS4.out.later hb)
      have HW := Lib.hid hwk
      have HP := Lib.hid hp14
      clear hb hwk hp14
      go_upto_region 11 with (fail)
      rw [← HW.out, ← HP.out]
      clear HW HP
      cases ok2 with
      | false =>
        have j1 := fun q : LaterOf wk => implEqualAcceptors X1 X2 X3 X4 _ _ _ _ X5 X6 X1 X2 X3 X4 _ _ _ _ X5 X6 q.W (by omega) (by omega) (HS1.out.later q.h) (HS2.out.later q.h) (by omega) (by omega) (HS3.out.later q.h) (HS4.out.later q.h)
        simp only [and_self, decide_true] at j1
        have K1 : ∀ q : LaterOf wk, Hid _ := fun q => Lib.hid (j1 q)
        have K3 : ∀ q : LaterOf wk, Hid _ := fun q => Lib.hid (J3.out q.W (HO1.out.later q.h) (HO2.out.later q.h))
        have K4 : ∀ q : LaterOf wk, Hid _ := fun q => Lib.hid (J4.out q.W (HO1.out.later q.h) (HO2.out.later q.h))
        have z0 := LaterOf.cell (a := ⟨p12, 0, none⟩) HZ.out.lt (HZ.out.c 0 rfl)
        have z1 := LaterOf.cell (a := ⟨p12, 1, none⟩) HZ.out.lt (HZ.out.c 1 rfl)
        have z2 := LaterOf.cell (a := ⟨p12, 2, none⟩) HZ.out.lt (HZ.out.c 2 rfl)
        have z3 := LaterOf.cell (a := ⟨p12, 3, none⟩) HZ.out.lt (HZ.out.c 3 rfl)
        have z4 := LaterOf.cell (a := ⟨p12, 4, none⟩) HZ.out.lt (HZ.out.c 4 rfl)
        have z5 := LaterOf.cell (a := ⟨p12, 5, none⟩) HZ.out.lt (HZ.out.c 5 rfl)
        have y0 := LaterOf.cell (a := ⟨p14, 0, none⟩) HY.out.lt (HY.out.c 0 rfl)
        have y1 := LaterOf.cell (a := ⟨p14, 1, none⟩) HY.out.lt (HY.out.c 1 rfl)
        have y2 := LaterOf.cell (a := ⟨p14, 2, none⟩) HY.out.lt (HY.out.c 2 rfl)
        have y3 := LaterOf.cell (a := ⟨p14, 3, none⟩) HY.out.lt (HY.out.c 3 rfl)
        have y4 := LaterOf.cell (a := ⟨p14, 4, none⟩) HY.out.lt (HY.out.c 4 rfl)
        have y5 := LaterOf.cell (a := ⟨p14, 5, none⟩) HY.out.lt (HY.out.c 5 rfl)
        have q0 := LaterOf.cell (a := ⟨p9, 0, none⟩) HE.out.lt (HE.out.c 0 rfl)
        have i0 := LaterOf.cell (a := ⟨p9 + 1, 0, none⟩) HV.out.lt (HV.out.c 0 rfl)
        have i1 := LaterOf.cell (a := ⟨p9 + 1, 1, none⟩) HV.out.lt (HV.out.c 1 rfl)
        have i2 := LaterOf.cell (a := ⟨p9 + 1, 2, none⟩) HV.out.lt (HV.out.c 2 rfl)
        have i3 := LaterOf.cell (a := ⟨p9 + 1, 3, none⟩) HV.out.lt (HV.out.c 3 rfl)
        have n0 := LaterOf.cell (a := ⟨p, 0, none⟩) HA.out.lt (HA.out.c 0 rfl)
        have n1 := LaterOf.cell (a := ⟨p, 1, none⟩) HA.out.lt (HA.out.c 1 rfl)
        have n2 := LaterOf.cell (a := ⟨p, 2, none⟩) HA.out.lt (HA.out.c 2 rfl)
        have n3 := LaterOf.cell (a := ⟨p, 3, none⟩) HA.out.lt (HA.out.c 3 rfl)
        have n4 := LaterOf.cell (a := ⟨p, 4, none⟩) HA.out.lt (HA.out.c 4 rfl)
        have n5 := LaterOf.cell (a := ⟨p, 5, none⟩) HA.out.lt (HA.out.c 5 rfl)
        have t1 : (va == va) = true := by simp
        clear j1
        refine wp_region_later (by kernel_rfl) (by kernel_rfl) ?_
        repeat (go_big_quiet_step (first | (with_reducible exact Calls.later_of (K1 _).out) | (with_reducible exact Calls.later_of (K3 _).out) | (with_reducible exact Calls.later_of (K4 _).out)))
        refine wpQuiet_nil ?_
        intro w15 hw'
        obtain ⟨⟨wz, hbk⟩, hw''⟩ := hw'
        subst hw''
        have HF := Lib.hid (HB.out.trans (hbk.mono HB.out.size))
        clear hbk
        go_wp2_with fail
        go_ret
        exact ⟨rfl, HF.out⟩
      | true =>
        obtain ⟨h1, h2, h3, h4, h5, h6, h7⟩ := HYes.out rfl
        replace h1 := h1.symm
        replace h2 := h2.symm
        replace h3 := h3.symm
        replace h4 := h4.symm
        replace h5 := h5.symm
        replace h6 := h6.symm
        subst h1 h2 h3 h4 h5 h6
        have j1 := fun q : LaterOf wk => implEqualAcceptors n' n' s2 t2 _ _ _ _ M1 M2 n' n' s2 t2 _ _ _ _ M1 M2 q.W (by omega) (by omega) (HS1.out.later q.h) (HS2.out.later q.h) (by omega) (by omega) (HS3.out.later q.h) (HS4.out.later q.h)
        have j2 := fun q : LaterOf wk => implEqualConfigs s2 t2 _ _ _ _ M1 M2 s2 t2 _ _ _ _ M1 M2 q.W (by omega) (by omega) (HS1.out.later q.h) (HS2.out.later q.h) (by omega) (by omega) (HM1.out.later q.h) (HM2.out.later q.h)
        simp only [and_self, decide_true] at j1 j2
        have K2 : ∀ q : LaterOf wk, Hid _ := fun q => Lib.hid (j2 q)
        have t2 : decide (x' ≤ n') = true := decide_eq_true h7
        clear j2 h7
        have K1 : ∀ q : LaterOf wk, Hid _ := fun q => Lib.hid (j1 q)
        have K3 : ∀ q : LaterOf wk, Hid _ := fun q => Lib.hid (J3.out q.W (HO1.out.later q.h) (HO2.out.later q.h))
        have K4 : ∀ q : LaterOf wk, Hid _ := fun q => Lib.hid (J4.out q.W (HO1.out.later q.h) (HO2.out.later q.h))
        have z0 := LaterOf.cell (a := ⟨p12, 0, none⟩) HZ.out.lt (HZ.out.c 0 rfl)
        have z1 := LaterOf.cell (a := ⟨p12, 1, none⟩) HZ.out.lt (HZ.out.c 1 rfl)
        have z2 := LaterOf.cell (a := ⟨p12, 2, none⟩) HZ.out.lt (HZ.out.c 2 rfl)
        have z3 := LaterOf.cell (a := ⟨p12, 3, none⟩) HZ.out.lt (HZ.out.c 3 rfl)
        have z4 := LaterOf.cell (a := ⟨p12, 4, none⟩) HZ.out.lt (HZ.out.c 4 rfl)
        have z5 := LaterOf.cell (a := ⟨p12, 5, none⟩) HZ.out.lt (HZ.out.c 5 rfl)
        have y0 := LaterOf.cell (a := ⟨p14, 0, none⟩) HY.out.lt (HY.out.c 0 rfl)
        have y1 := LaterOf.cell (a := ⟨p14, 1, none⟩) HY.out.lt (HY.out.c 1 rfl)
        have y2 := LaterOf.cell (a := ⟨p14, 2, none⟩) HY.out.lt (HY.out.c 2 rfl)
        have y3 := LaterOf.cell (a := ⟨p14, 3, none⟩) HY.out.lt (HY.out.c 3 rfl)
        have y4 := LaterOf.cell (a := ⟨p14, 4, none⟩) HY.out.lt (HY.out.c 4 rfl)
        have y5 := LaterOf.cell (a := ⟨p14, 5, none⟩) HY.out.lt (HY.out.c 5 rfl)
        have q0 := LaterOf.cell (a := ⟨p9, 0, none⟩) HE.out.lt (HE.out.c 0 rfl)
        have i0 := LaterOf.cell (a := ⟨p9 + 1, 0, none⟩) HV.out.lt (HV.out.c 0 rfl)
        have i1 := LaterOf.cell (a := ⟨p9 + 1, 1, none⟩) HV.out.lt (HV.out.c 1 rfl)
        have i2 := LaterOf.cell (a := ⟨p9 + 1, 2, none⟩) HV.out.lt (HV.out.c 2 rfl)
        have i3 := LaterOf.cell (a := ⟨p9 + 1, 3, none⟩) HV.out.lt (HV.out.c 3 rfl)
        have n0 := LaterOf.cell (a := ⟨p, 0, none⟩) HA.out.lt (HA.out.c 0 rfl)
        have n1 := LaterOf.cell (a := ⟨p, 1, none⟩) HA.out.lt (HA.out.c 1 rfl)
        have n2 := LaterOf.cell (a := ⟨p, 2, none⟩) HA.out.lt (HA.out.c 2 rfl)
        have n3 := LaterOf.cell (a := ⟨p, 3, none⟩) HA.out.lt (HA.out.c 3 rfl)
        have n4 := LaterOf.cell (a := ⟨p, 4, none⟩) HA.out.lt (HA.out.c 4 rfl)
        have n5 := LaterOf.cell (a := ⟨p, 5, none⟩) HA.out.lt (HA.out.c 5 rfl)
        have t1 : (va == va) = true := by simp
        clear j1
        refine wp_region_later (by kernel_rfl) (by kernel_rfl) ?_
        repeat (go_big_quiet_step (first | (with_reducible exact Calls.later_of (K1 _).out) | (with_reducible exact Calls.later_of (K2 _).out) | (with_reducible exact Calls.later_of (K3 _).out) | (with_reducible exact Calls.later_of (K4 _).out)))
        refine wpQuiet_nil ?_
        intro w15 hw'
        obtain ⟨⟨wz, hbk⟩, hw''⟩ := hw'
        subst hw''
        have HF := Lib.hid (HB.out.trans (hbk.mono HB.out.size))
        clear hbk
        go_wp2_with fail
        go_ret
        exact ⟨rfl, HF.out⟩
end Go.Proofs.Ytgjebjoaemeeoaa.fnAcceptors
