/-
  For every two Acceptors (the law passes over those with more than 2^20 elements), impl's EqualAcceptors returns the same bool as the specification's and leaves its arguments as they were: the law returns true and changes nothing that was there. No condition.
-/
import Derived.Test.YtgjebjoaemeeoaaS10Valid
import Derived.Test.YtgjebjoaemeeoaaAcc
import Derived.Deep.RegionWith
import Derived.Deep.DeepCutAuto
namespace Go.Proofs.Ytgjebjoaemeeoaa.fnExactEqualAcceptors
open Go.ChangeShapes Go.WideShapes Go.ChangeAt Go.RowKit
open Go.ChangeMaps (open_string shut_string)
set_option linter.unusedVariables false

set_option maxRecDepth 100000 in
set_option maxHeartbeats 16000000 in
theorem walk (x0 y0 s0 t0 : Int) (a0 : Option Addr) (c0 : Nat) (L0 : List Int) (b0 : Option Addr) (d0 : Nat) (M0 : List Int) (x1 y1 s1 t1 : Int) (a1 : Option Addr) (c1 : Nat) (L1 : List Int) (b1 : Option Addr) (d1 : Nat) (M1 : List Int) (w : World) (wa0 : kit.At w a0 L0) (wb0 : kit.At w b0 M0) (wl0 : L0.length ≤ maxLen) (wm0 : M0.length ≤ maxLen) (wa1 : kit.At w a1 L1) (wb1 : kit.At w b1 M1) (wl1 : L1.length ≤ maxLen) (wm1 : M1.length ≤ maxLen) :
    Calls Try.prog 7 #[.agg #[.int .i64 x0, .int .i64 y0, .int .i64 s0, .int .i64 t0, .slice a0 L0.length c0, .slice b0 M0.length d0], .agg #[.int .i64 x1, .int .i64 y1, .int .i64 s1, .int .i64 t1, .slice a1 L1.length c1, .slice b1 M1.length d1]] w fun e w' => e = .returned (.bool true) ∧ Below w.heap.size w w' := by
  unfold maxLen at wl0 wm0
  have HA0' := Lib.hid (kit.at_low wa0)
  have HM0' := Lib.hid (kit.at_low wb0)
  have HA0 := Lib.hid wa0
  have HM0 := Lib.hid wb0
  clear wa0 wb0
  unfold maxLen at wl1 wm1
  have HA1' := Lib.hid (kit.at_low wa1)
  have HM1' := Lib.hid (kit.at_low wb1)
  have HA1 := Lib.hid wa1
  have HM1 := Lib.hid wb1
  clear wa1 wb1
  have HB := Lib.hid (Below.refl w.heap.size w)
  have hz : w.heap.size ≤ w.heap.size := Nat.le_refl _
  go_enter Try.func7, Try.ntmps7
  go_wp2_with fail
  obtain ⟨w1, hw1⟩ : ∃ W, W = w.alloc (.cells #[.int .i64 x0, .int .i64 y0, .int .i64 s0, .int .i64 t0, .slice a0 L0.length c0, .slice b0 M0.length d0] 41) := ⟨_, rfl⟩
  rw [← hw1]
  obtain ⟨pw1, epw1⟩ : ∃ p, p = w.heap.size := ⟨_, rfl⟩
  rw [← epw1]
  have Epw1 := Lib.hid epw1
  have epw1' := Epw1.out
  clear epw1
  have xpw1_0 : w1.cell? ⟨pw1, 0, none⟩ = some (.int .i64 x0) := by rw [hw1, epw1', World.cell?_alloc_at _ _ _ _ rfl]; rfl
  have xpw1_1 : w1.cell? ⟨pw1, 1, none⟩ = some (.int .i64 y0) := by rw [hw1, epw1', World.cell?_alloc_at _ _ _ _ rfl]; rfl
  have xpw1_2 : w1.cell? ⟨pw1, 2, none⟩ = some (.int .i64 s0) := by rw [hw1, epw1', World.cell?_alloc_at _ _ _ _ rfl]; rfl
  have xpw1_3 : w1.cell? ⟨pw1, 3, none⟩ = some (.int .i64 t0) := by rw [hw1, epw1', World.cell?_alloc_at _ _ _ _ rfl]; rfl
  have xpw1_4 : w1.cell? ⟨pw1, 4, none⟩ = some (.slice a0 L0.length c0) := by rw [hw1, epw1', World.cell?_alloc_at _ _ _ _ rfl]; rfl
  have xpw1_5 : w1.cell? ⟨pw1, 5, none⟩ = some (.slice b0 M0.length d0) := by rw [hw1, epw1', World.cell?_alloc_at _ _ _ _ rfl]; rfl
  have hpw1 : pw1 < w1.heap.size := by rw [hw1, epw1', World.size_alloc]; exact Nat.lt_succ_self _
  have hb : Below w.heap.size w w1 := by rw [hw1]; exact (Below.refl _ _).alloc (Nat.le_refl _) _
  have Sw1 := Lib.hid (show w1.heap.size = w.heap.size + 1 by rw [hw1, World.size_alloc])
  replace HB := Lib.hid (HB.out.trans (hb.mono hz))
  replace hz := Nat.le_trans hz hb.size
  have HZw1 := Lib.hid hb.size
  replace HA0 := Lib.hid (HA0.out.later hb)
  replace HM0 := Lib.hid (HM0.out.later hb)
  replace HA1 := Lib.hid (HA1.out.later hb)
  replace HM1 := Lib.hid (HM1.out.later hb)
  clear hb
  obtain ⟨w2, hw2⟩ : ∃ W, W = w1.alloc (.cells #[.int .i64 x1, .int .i64 y1, .int .i64 s1, .int .i64 t1, .slice a1 L1.length c1, .slice b1 M1.length d1] 41) := ⟨_, rfl⟩
  rw [← hw2]
  obtain ⟨pw2, epw2⟩ : ∃ p, p = pw1 + 1 := ⟨_, rfl⟩
  rw [← epw2]
  have Epw2 := Lib.hid (show pw2 = w1.heap.size by rw [epw2, hw1, World.size_alloc, epw1'])
  have epw2' := Epw2.out
  clear epw2
  have xpw2_0 : w2.cell? ⟨pw2, 0, none⟩ = some (.int .i64 x1) := by rw [hw2, epw2', World.cell?_alloc_at _ _ _ _ rfl]; rfl
  have xpw2_1 : w2.cell? ⟨pw2, 1, none⟩ = some (.int .i64 y1) := by rw [hw2, epw2', World.cell?_alloc_at _ _ _ _ rfl]; rfl
  have xpw2_2 : w2.cell? ⟨pw2, 2, none⟩ = some (.int .i64 s1) := by rw [hw2, epw2', World.cell?_alloc_at _ _ _ _ rfl]; rfl
  have xpw2_3 : w2.cell? ⟨pw2, 3, none⟩ = some (.int .i64 t1) := by rw [hw2, epw2', World.cell?_alloc_at _ _ _ _ rfl]; rfl
  have xpw2_4 : w2.cell? ⟨pw2, 4, none⟩ = some (.slice a1 L1.length c1) := by rw [hw2, epw2', World.cell?_alloc_at _ _ _ _ rfl]; rfl
  have xpw2_5 : w2.cell? ⟨pw2, 5, none⟩ = some (.slice b1 M1.length d1) := by rw [hw2, epw2', World.cell?_alloc_at _ _ _ _ rfl]; rfl
  have hpw2 : pw2 < w2.heap.size := by rw [hw2, epw2', World.size_alloc]; exact Nat.lt_succ_self _
  have hb : Below w1.heap.size w1 w2 := by rw [hw2]; exact (Below.refl _ _).alloc (Nat.le_refl _) _
  have Sw2 := Lib.hid (show w2.heap.size = w1.heap.size + 1 by rw [hw2, World.size_alloc])
  replace xpw1_0 := (hb.cell (p := ⟨pw1, 0, none⟩) hpw1).trans xpw1_0
  replace xpw1_1 := (hb.cell (p := ⟨pw1, 1, none⟩) hpw1).trans xpw1_1
  replace xpw1_2 := (hb.cell (p := ⟨pw1, 2, none⟩) hpw1).trans xpw1_2
  replace xpw1_3 := (hb.cell (p := ⟨pw1, 3, none⟩) hpw1).trans xpw1_3
  replace xpw1_4 := (hb.cell (p := ⟨pw1, 4, none⟩) hpw1).trans xpw1_4
  replace xpw1_5 := (hb.cell (p := ⟨pw1, 5, none⟩) hpw1).trans xpw1_5
  replace hpw1 := Nat.lt_of_lt_of_le hpw1 hb.size
  replace HB := Lib.hid (HB.out.trans (hb.mono hz))
  replace hz := Nat.le_trans hz hb.size
  have HZw2 := Lib.hid hb.size
  replace HA0 := Lib.hid (HA0.out.later hb)
  replace HM0 := Lib.hid (HM0.out.later hb)
  replace HA1 := Lib.hid (HA1.out.later hb)
  replace HM1 := Lib.hid (HM1.out.later hb)
  clear hb
  clear epw1' hw1
  clear epw2' hw2
  refine (kit.szAcceptor x0 y0 s0 t0 a0 L0.length c0 b0 M0.length d0 (1048576) w2 (by omega) (by omega) (by omega) (by omega)).mono ?_
  rintro e w3 ⟨rfl, hb⟩
  replace xpw1_0 := (hb.cell (p := ⟨pw1, 0, none⟩) hpw1).trans xpw1_0
  replace xpw1_1 := (hb.cell (p := ⟨pw1, 1, none⟩) hpw1).trans xpw1_1
  replace xpw1_2 := (hb.cell (p := ⟨pw1, 2, none⟩) hpw1).trans xpw1_2
  replace xpw1_3 := (hb.cell (p := ⟨pw1, 3, none⟩) hpw1).trans xpw1_3
  replace xpw1_4 := (hb.cell (p := ⟨pw1, 4, none⟩) hpw1).trans xpw1_4
  replace xpw1_5 := (hb.cell (p := ⟨pw1, 5, none⟩) hpw1).trans xpw1_5
  replace hpw1 := Nat.lt_of_lt_of_le hpw1 hb.size
  replace xpw2_0 := (hb.cell (p := ⟨pw2, 0, none⟩) hpw2).trans xpw2_0
  replace xpw2_1 := (hb.cell (p := ⟨pw2, 1, none⟩) hpw2).trans xpw2_1
  replace xpw2_2 := (hb.cell (p := ⟨pw2, 2, none⟩) hpw2).trans xpw2_2
  replace xpw2_3 := (hb.cell (p := ⟨pw2, 3, none⟩) hpw2).trans xpw2_3
  replace xpw2_4 := (hb.cell (p := ⟨pw2, 4, none⟩) hpw2).trans xpw2_4
  replace xpw2_5 := (hb.cell (p := ⟨pw2, 5, none⟩) hpw2).trans xpw2_5
  replace hpw2 := Nat.lt_of_lt_of_le hpw2 hb.size
  replace HB := Lib.hid (HB.out.trans (hb.mono hz))
  replace hz := Nat.le_trans hz hb.size
  have HZw3 := Lib.hid hb.size
  replace HA0 := Lib.hid (HA0.out.later hb)
  replace HM0 := Lib.hid (HM0.out.later hb)
  replace HA1 := Lib.hid (HA1.out.later hb)
  replace HM1 := Lib.hid (HM1.out.later hb)
  clear hb
  by_cases hs1 : ¬ (L0.length : Int) + (M0.length : Int) ≤ 1048576
  · rw [show kit.left (1048576) L0.length M0.length = -1 from if_neg hs1]
    go_wp2_with fail
    go_ret
    exact ⟨rfl, HB.out⟩
  replace hs1 := Decidable.not_not.1 hs1
  rw [show kit.left (1048576) L0.length M0.length = 1048576 - (L0.length : Int) - (M0.length : Int) from if_pos hs1]
  go_wp2_with fail
  refine (kit.szAcceptor x1 y1 s1 t1 a1 L1.length c1 b1 M1.length d1 (1048576 - (L0.length : Int) - (M0.length : Int)) w3 (by omega) (by omega) (by omega) (by omega)).mono ?_
  rintro e w4 ⟨rfl, hb⟩
  replace xpw1_0 := (hb.cell (p := ⟨pw1, 0, none⟩) hpw1).trans xpw1_0
  replace xpw1_1 := (hb.cell (p := ⟨pw1, 1, none⟩) hpw1).trans xpw1_1
  replace xpw1_2 := (hb.cell (p := ⟨pw1, 2, none⟩) hpw1).trans xpw1_2
  replace xpw1_3 := (hb.cell (p := ⟨pw1, 3, none⟩) hpw1).trans xpw1_3
  replace xpw1_4 := (hb.cell (p := ⟨pw1, 4, none⟩) hpw1).trans xpw1_4
  replace xpw1_5 := (hb.cell (p := ⟨pw1, 5, none⟩) hpw1).trans xpw1_5
  replace hpw1 := Nat.lt_of_lt_of_le hpw1 hb.size
  replace xpw2_0 := (hb.cell (p := ⟨pw2, 0, none⟩) hpw2).trans xpw2_0
  replace xpw2_1 := (hb.cell (p := ⟨pw2, 1, none⟩) hpw2).trans xpw2_1
  replace xpw2_2 := (hb.cell (p := ⟨pw2, 2, none⟩) hpw2).trans xpw2_2
  replace xpw2_3 := (hb.cell (p := ⟨pw2, 3, none⟩) hpw2).trans xpw2_3
  replace xpw2_4 := (hb.cell (p := ⟨pw2, 4, none⟩) hpw2).trans xpw2_4
  replace xpw2_5 := (hb.cell (p := ⟨pw2, 5, none⟩) hpw2).trans xpw2_5
  replace hpw2 := Nat.lt_of_lt_of_le hpw2 hb.size
  replace HB := Lib.hid (HB.out.trans (hb.mono hz))
  replace hz := Nat.le_trans hz hb.size
  have HZw4 := Lib.hid hb.size
  replace HA0 := Lib.hid (HA0.out.later hb)
  replace HM0 := Lib.hid (HM0.out.later hb)
  replace HA1 := Lib.hid (HA1.out.later hb)
  replace HM1 := Lib.hid (HM1.out.later hb)
  clear hb
  by_cases hs2 : ¬ (L1.length : Int) + (M1.length : Int) ≤ 1048576 - (L0.length : Int) - (M0.length : Int)
  · rw [show kit.left (1048576 - (L0.length : Int) - (M0.length : Int)) L1.length M1.length = -1 from if_neg hs2]
    go_wp2_with fail
    go_ret
    exact ⟨rfl, HB.out⟩
  replace hs2 := Decidable.not_not.1 hs2
  rw [show kit.left (1048576 - (L0.length : Int) - (M0.length : Int)) L1.length M1.length = 1048576 - (L0.length : Int) - (M0.length : Int) - (L1.length : Int) - (M1.length : Int) from if_pos hs2]
  go_wp2_with fail
  obtain ⟨T1, hT1⟩ : ∃ T, decide (x0 = x1 ∧ y0 = y1 ∧ s0 = s1 ∧ t0 = t1 ∧ L0 = L1 ∧ M0 = M1) = T := ⟨_, rfl⟩
  have HT1 := Lib.hid hT1
  clear hT1
  go_upto_region 8 with (fail)
  go_cut [6] (fun b wx => b = .bool T1 ∧ Below w4.heap.size w4 wx)
  case first =>
    have hW0 := (Below.refl w4.heap.size w4).drew
    go_region_with (first | (go_at_call 20; (with_reducible refine (kit.toAcceptor x0 y0 s0 t0 a0 c0 L0 b0 d0 M0 _ (by omega) (by omega) (HA0.out.later hW0) (HM0.out.later hW0)).mono ?_); rintro e wa0 ⟨uI, uS, rfl, hoI, hoS, hb, hap⟩; obtain ⟨yr5, qr5, rfl⟩ := hoI.shape; obtain ⟨yr6, qr6, rfl⟩ := hoS.shape; have hB0 := hW0.trans (hb.mono hW0.size); have z0pw1_0 := (hB0.cell (p := ⟨pw1, 0, none⟩) hpw1).trans xpw1_0; have z0pw1_1 := (hB0.cell (p := ⟨pw1, 1, none⟩) hpw1).trans xpw1_1; have z0pw1_2 := (hB0.cell (p := ⟨pw1, 2, none⟩) hpw1).trans xpw1_2; have z0pw1_3 := (hB0.cell (p := ⟨pw1, 3, none⟩) hpw1).trans xpw1_3; have z0pw1_4 := (hB0.cell (p := ⟨pw1, 4, none⟩) hpw1).trans xpw1_4; have z0pw1_5 := (hB0.cell (p := ⟨pw1, 5, none⟩) hpw1).trans xpw1_5; have z0pw2_0 := (hB0.cell (p := ⟨pw2, 0, none⟩) hpw2).trans xpw2_0; have z0pw2_1 := (hB0.cell (p := ⟨pw2, 1, none⟩) hpw2).trans xpw2_1; have z0pw2_2 := (hB0.cell (p := ⟨pw2, 2, none⟩) hpw2).trans xpw2_2; have z0pw2_3 := (hB0.cell (p := ⟨pw2, 3, none⟩) hpw2).trans xpw2_3; have z0pw2_4 := (hB0.cell (p := ⟨pw2, 4, none⟩) hpw2).trans xpw2_4; have z0pw2_5 := (hB0.cell (p := ⟨pw2, 5, none⟩) hpw2).trans xpw2_5;  have HOr5 := Lib.hid hoI; have HOr6 := Lib.hid hoS; clear hb hoI hoS) | (go_at_call 20; (with_reducible refine (kit.toAcceptor x1 y1 s1 t1 a1 c1 L1 b1 d1 M1 _ (by omega) (by omega) (HA1.out.later hB0) (HM1.out.later hB0)).mono ?_); rintro e wa1 ⟨uI, uS, rfl, hoI, hoS, hb, hap⟩; obtain ⟨yr7, qr7, rfl⟩ := hoI.shape; obtain ⟨yr8, qr8, rfl⟩ := hoS.shape; have hB1 := hB0.trans (hb.mono hB0.size); have z1pw1_0 := (hB1.cell (p := ⟨pw1, 0, none⟩) hpw1).trans xpw1_0; have z1pw1_1 := (hB1.cell (p := ⟨pw1, 1, none⟩) hpw1).trans xpw1_1; have z1pw1_2 := (hB1.cell (p := ⟨pw1, 2, none⟩) hpw1).trans xpw1_2; have z1pw1_3 := (hB1.cell (p := ⟨pw1, 3, none⟩) hpw1).trans xpw1_3; have z1pw1_4 := (hB1.cell (p := ⟨pw1, 4, none⟩) hpw1).trans xpw1_4; have z1pw1_5 := (hB1.cell (p := ⟨pw1, 5, none⟩) hpw1).trans xpw1_5; have z1pw2_0 := (hB1.cell (p := ⟨pw2, 0, none⟩) hpw2).trans xpw2_0; have z1pw2_1 := (hB1.cell (p := ⟨pw2, 1, none⟩) hpw2).trans xpw2_1; have z1pw2_2 := (hB1.cell (p := ⟨pw2, 2, none⟩) hpw2).trans xpw2_2; have z1pw2_3 := (hB1.cell (p := ⟨pw2, 3, none⟩) hpw2).trans xpw2_3; have z1pw2_4 := (hB1.cell (p := ⟨pw2, 4, none⟩) hpw2).trans xpw2_4; have z1pw2_5 := (hB1.cell (p := ⟨pw2, 5, none⟩) hpw2).trans xpw2_5; replace HOr5 := Lib.hid (HOr5.out.later hb); replace HOr6 := Lib.hid (HOr6.out.later hb); have HOr7 := Lib.hid hoI; have HOr8 := Lib.hid hoS; clear hb hoI hoS) | (go_at_call 28; (with_reducible refine (kit.specEqualAcceptors x0 y0 s0 t0 _ _ (.slice yr5 L0.length qr5) (.slice yr6 M0.length qr6) L0 M0 x1 y1 s1 t1 _ _ (.slice yr7 L1.length qr7) (.slice yr8 M1.length qr8) L1 M1 _ (by omega) (by omega) HOr5.out HOr6.out (by omega) (by omega) HOr7.out HOr8.out).mono ?_); rintro e wz ⟨he, hb⟩; rw [HT1.out] at he; subst he; have hB9 := hB1.trans (hb.mono hB1.size); clear hb))
    all_goals
      go_wp2_with fail
      go_meet
      exact ⟨rfl, hB9⟩
  case rest =>
    obtain ⟨rfl, hb⟩ := hcut
    replace xpw1_0 := (hb.cell (p := ⟨pw1, 0, none⟩) hpw1).trans xpw1_0
    replace xpw1_1 := (hb.cell (p := ⟨pw1, 1, none⟩) hpw1).trans xpw1_1
    replace xpw1_2 := (hb.cell (p := ⟨pw1, 2, none⟩) hpw1).trans xpw1_2
    replace xpw1_3 := (hb.cell (p := ⟨pw1, 3, none⟩) hpw1).trans xpw1_3
    replace xpw1_4 := (hb.cell (p := ⟨pw1, 4, none⟩) hpw1).trans xpw1_4
    replace xpw1_5 := (hb.cell (p := ⟨pw1, 5, none⟩) hpw1).trans xpw1_5
    replace hpw1 := Nat.lt_of_lt_of_le hpw1 hb.size
    replace xpw2_0 := (hb.cell (p := ⟨pw2, 0, none⟩) hpw2).trans xpw2_0
    replace xpw2_1 := (hb.cell (p := ⟨pw2, 1, none⟩) hpw2).trans xpw2_1
    replace xpw2_2 := (hb.cell (p := ⟨pw2, 2, none⟩) hpw2).trans xpw2_2
    replace xpw2_3 := (hb.cell (p := ⟨pw2, 3, none⟩) hpw2).trans xpw2_3
    replace xpw2_4 := (hb.cell (p := ⟨pw2, 4, none⟩) hpw2).trans xpw2_4
    replace xpw2_5 := (hb.cell (p := ⟨pw2, 5, none⟩) hpw2).trans xpw2_5
    replace hpw2 := Nat.lt_of_lt_of_le hpw2 hb.size
    replace HB := Lib.hid (HB.out.trans (hb.mono hz))
    replace hz := Nat.le_trans hz hb.size
    have HZwc := Lib.hid hb.size
    replace HA0 := Lib.hid (HA0.out.later hb)
    replace HM0 := Lib.hid (HM0.out.later hb)
    replace HA1 := Lib.hid (HA1.out.later hb)
    replace HM1 := Lib.hid (HM1.out.later hb)
    clear hb
    obtain ⟨w10, rfl⟩ : ∃ W, W = wc := ⟨_, rfl⟩
    go_wp2_with fail
    refine (kit.toAcceptor x0 y0 s0 t0 a0 c0 L0 b0 d0 M0 w10 (by omega) (by omega) HA0.out HM0.out).mono ?_
    rintro e w11 ⟨u12I, u12S, rfl, hoI, hoS, hb, hap⟩
    obtain ⟨yr13, qr13, rfl⟩ := hoI.shape
    obtain ⟨yr14, qr14, rfl⟩ := hoS.shape
    have HPr13 := Lib.hid hap
    clear hap
    replace xpw1_0 := (hb.cell (p := ⟨pw1, 0, none⟩) hpw1).trans xpw1_0
    replace xpw1_1 := (hb.cell (p := ⟨pw1, 1, none⟩) hpw1).trans xpw1_1
    replace xpw1_2 := (hb.cell (p := ⟨pw1, 2, none⟩) hpw1).trans xpw1_2
    replace xpw1_3 := (hb.cell (p := ⟨pw1, 3, none⟩) hpw1).trans xpw1_3
    replace xpw1_4 := (hb.cell (p := ⟨pw1, 4, none⟩) hpw1).trans xpw1_4
    replace xpw1_5 := (hb.cell (p := ⟨pw1, 5, none⟩) hpw1).trans xpw1_5
    replace hpw1 := Nat.lt_of_lt_of_le hpw1 hb.size
    replace xpw2_0 := (hb.cell (p := ⟨pw2, 0, none⟩) hpw2).trans xpw2_0
    replace xpw2_1 := (hb.cell (p := ⟨pw2, 1, none⟩) hpw2).trans xpw2_1
    replace xpw2_2 := (hb.cell (p := ⟨pw2, 2, none⟩) hpw2).trans xpw2_2
    replace xpw2_3 := (hb.cell (p := ⟨pw2, 3, none⟩) hpw2).trans xpw2_3
    replace xpw2_4 := (hb.cell (p := ⟨pw2, 4, none⟩) hpw2).trans xpw2_4
    replace xpw2_5 := (hb.cell (p := ⟨pw2, 5, none⟩) hpw2).trans xpw2_5
    replace hpw2 := Nat.lt_of_lt_of_le hpw2 hb.size
    replace HB := Lib.hid (HB.out.trans (hb.mono hz))
    replace hz := Nat.le_trans hz hb.size
    have HZw11 := Lib.hid hb.size
    replace HA0 := Lib.hid (HA0.out.later hb)
    replace HM0 := Lib.hid (HM0.out.later hb)
    replace HA1 := Lib.hid (HA1.out.later hb)
    replace HM1 := Lib.hid (HM1.out.later hb)
    have HOr13 := Lib.hid hoI
    have HUr13 := Lib.hid hoI.block
    clear hoI
    have HOr14 := Lib.hid hoS
    have HUr14 := Lib.hid hoS.block
    clear hoS
    clear hb
    go_wp2_with fail
    obtain ⟨w15, hw15⟩ : ∃ W, W = w11.alloc (.cells #[.int .i64 x0, .int .i64 y0, .int .i64 s0, .int .i64 t0, .slice yr13 L0.length qr13, .slice yr14 M0.length qr14] 28) := ⟨_, rfl⟩
    rw [← hw15]
    obtain ⟨pw15, epw15⟩ : ∃ p, p = w11.heap.size := ⟨_, rfl⟩
    rw [← epw15]
    have Epw15 := Lib.hid epw15
    have epw15' := Epw15.out
    clear epw15
    have xpw15_0 : w15.cell? ⟨pw15, 0, none⟩ = some (.int .i64 x0) := by rw [hw15, epw15', World.cell?_alloc_at _ _ _ _ rfl]; rfl
    have xpw15_1 : w15.cell? ⟨pw15, 1, none⟩ = some (.int .i64 y0) := by rw [hw15, epw15', World.cell?_alloc_at _ _ _ _ rfl]; rfl
    have xpw15_2 : w15.cell? ⟨pw15, 2, none⟩ = some (.int .i64 s0) := by rw [hw15, epw15', World.cell?_alloc_at _ _ _ _ rfl]; rfl
    have xpw15_3 : w15.cell? ⟨pw15, 3, none⟩ = some (.int .i64 t0) := by rw [hw15, epw15', World.cell?_alloc_at _ _ _ _ rfl]; rfl
    have xpw15_4 : w15.cell? ⟨pw15, 4, none⟩ = some (.slice yr13 L0.length qr13) := by rw [hw15, epw15', World.cell?_alloc_at _ _ _ _ rfl]; rfl
    have xpw15_5 : w15.cell? ⟨pw15, 5, none⟩ = some (.slice yr14 M0.length qr14) := by rw [hw15, epw15', World.cell?_alloc_at _ _ _ _ rfl]; rfl
    have hpw15 : pw15 < w15.heap.size := by rw [hw15, epw15', World.size_alloc]; exact Nat.lt_succ_self _
    have hb : Below w11.heap.size w11 w15 := by rw [hw15]; exact (Below.refl _ _).alloc (Nat.le_refl _) _
    have Sw15 := Lib.hid (show w15.heap.size = w11.heap.size + 1 by rw [hw15, World.size_alloc])
    replace xpw1_0 := (hb.cell (p := ⟨pw1, 0, none⟩) hpw1).trans xpw1_0
    replace xpw1_1 := (hb.cell (p := ⟨pw1, 1, none⟩) hpw1).trans xpw1_1
    replace xpw1_2 := (hb.cell (p := ⟨pw1, 2, none⟩) hpw1).trans xpw1_2
    replace xpw1_3 := (hb.cell (p := ⟨pw1, 3, none⟩) hpw1).trans xpw1_3
    replace xpw1_4 := (hb.cell (p := ⟨pw1, 4, none⟩) hpw1).trans xpw1_4
    replace xpw1_5 := (hb.cell (p := ⟨pw1, 5, none⟩) hpw1).trans xpw1_5
    replace hpw1 := Nat.lt_of_lt_of_le hpw1 hb.size
    replace xpw2_0 := (hb.cell (p := ⟨pw2, 0, none⟩) hpw2).trans xpw2_0
    replace xpw2_1 := (hb.cell (p := ⟨pw2, 1, none⟩) hpw2).trans xpw2_1
    replace xpw2_2 := (hb.cell (p := ⟨pw2, 2, none⟩) hpw2).trans xpw2_2
    replace xpw2_3 := (hb.cell (p := ⟨pw2, 3, none⟩) hpw2).trans xpw2_3
    replace xpw2_4 := (hb.cell (p := ⟨pw2, 4, none⟩) hpw2).trans xpw2_4
    replace xpw2_5 := (hb.cell (p := ⟨pw2, 5, none⟩) hpw2).trans xpw2_5
    replace hpw2 := Nat.lt_of_lt_of_le hpw2 hb.size
    replace HB := Lib.hid (HB.out.trans (hb.mono hz))
    replace hz := Nat.le_trans hz hb.size
    have HZw15 := Lib.hid hb.size
    replace HOr13 := Lib.hid (HOr13.out.later hb)
    replace HOr14 := Lib.hid (HOr14.out.later hb)
    replace HA0 := Lib.hid (HA0.out.later hb)
    replace HM0 := Lib.hid (HM0.out.later hb)
    replace HA1 := Lib.hid (HA1.out.later hb)
    replace HM1 := Lib.hid (HM1.out.later hb)
    clear hb
    clear epw15' hw15
    refine (kit.toAcceptor x1 y1 s1 t1 a1 c1 L1 b1 d1 M1 w15 (by omega) (by omega) HA1.out HM1.out).mono ?_
    rintro e w16 ⟨u17I, u17S, rfl, hoI, hoS, hb, hap⟩
    obtain ⟨yr18, qr18, rfl⟩ := hoI.shape
    obtain ⟨yr19, qr19, rfl⟩ := hoS.shape
    have HPr18 := Lib.hid hap
    clear hap
    replace xpw1_0 := (hb.cell (p := ⟨pw1, 0, none⟩) hpw1).trans xpw1_0
    replace xpw1_1 := (hb.cell (p := ⟨pw1, 1, none⟩) hpw1).trans xpw1_1
    replace xpw1_2 := (hb.cell (p := ⟨pw1, 2, none⟩) hpw1).trans xpw1_2
    replace xpw1_3 := (hb.cell (p := ⟨pw1, 3, none⟩) hpw1).trans xpw1_3
    replace xpw1_4 := (hb.cell (p := ⟨pw1, 4, none⟩) hpw1).trans xpw1_4
    replace xpw1_5 := (hb.cell (p := ⟨pw1, 5, none⟩) hpw1).trans xpw1_5
    replace hpw1 := Nat.lt_of_lt_of_le hpw1 hb.size
    replace xpw2_0 := (hb.cell (p := ⟨pw2, 0, none⟩) hpw2).trans xpw2_0
    replace xpw2_1 := (hb.cell (p := ⟨pw2, 1, none⟩) hpw2).trans xpw2_1
    replace xpw2_2 := (hb.cell (p := ⟨pw2, 2, none⟩) hpw2).trans xpw2_2
    replace xpw2_3 := (hb.cell (p := ⟨pw2, 3, none⟩) hpw2).trans xpw2_3
    replace xpw2_4 := (hb.cell (p := ⟨pw2, 4, none⟩) hpw2).trans xpw2_4
    replace xpw2_5 := (hb.cell (p := ⟨pw2, 5, none⟩) hpw2).trans xpw2_5
    replace hpw2 := Nat.lt_of_lt_of_le hpw2 hb.size
    replace xpw15_0 := (hb.cell (p := ⟨pw15, 0, none⟩) hpw15).trans xpw15_0
    replace xpw15_1 := (hb.cell (p := ⟨pw15, 1, none⟩) hpw15).trans xpw15_1
    replace xpw15_2 := (hb.cell (p := ⟨pw15, 2, none⟩) hpw15).trans xpw15_2
    replace xpw15_3 := (hb.cell (p := ⟨pw15, 3, none⟩) hpw15).trans xpw15_3
    replace xpw15_4 := (hb.cell (p := ⟨pw15, 4, none⟩) hpw15).trans xpw15_4
    replace xpw15_5 := (hb.cell (p := ⟨pw15, 5, none⟩) hpw15).trans xpw15_5
    replace hpw15 := Nat.lt_of_lt_of_le hpw15 hb.size
    replace HB := Lib.hid (HB.out.trans (hb.mono hz))
    replace hz := Nat.le_trans hz hb.size
    have HZw16 := Lib.hid hb.size
    replace HOr13 := Lib.hid (HOr13.out.later hb)
    replace HOr14 := Lib.hid (HOr14.out.later hb)
    replace HA0 := Lib.hid (HA0.out.later hb)
    replace HM0 := Lib.hid (HM0.out.later hb)
    replace HA1 := Lib.hid (HA1.out.later hb)
    replace HM1 := Lib.hid (HM1.out.later hb)
    have HOr18 := Lib.hid hoI
    have HUr18 := Lib.hid hoI.block
    clear hoI
    have HOr19 := Lib.hid hoS
    have HUr19 := Lib.hid hoS.block
    clear hoS
    clear hb
    go_wp2_with fail
    obtain ⟨w20, hw20⟩ : ∃ W, W = w16.alloc (.cells #[.int .i64 x1, .int .i64 y1, .int .i64 s1, .int .i64 t1, .slice yr18 L1.length qr18, .slice yr19 M1.length qr19] 28) := ⟨_, rfl⟩
    rw [← hw20]
    obtain ⟨pw20, epw20⟩ : ∃ p, p = w16.heap.size := ⟨_, rfl⟩
    rw [← epw20]
    have Epw20 := Lib.hid epw20
    have epw20' := Epw20.out
    clear epw20
    have xpw20_0 : w20.cell? ⟨pw20, 0, none⟩ = some (.int .i64 x1) := by rw [hw20, epw20', World.cell?_alloc_at _ _ _ _ rfl]; rfl
    have xpw20_1 : w20.cell? ⟨pw20, 1, none⟩ = some (.int .i64 y1) := by rw [hw20, epw20', World.cell?_alloc_at _ _ _ _ rfl]; rfl
    have xpw20_2 : w20.cell? ⟨pw20, 2, none⟩ = some (.int .i64 s1) := by rw [hw20, epw20', World.cell?_alloc_at _ _ _ _ rfl]; rfl
    have xpw20_3 : w20.cell? ⟨pw20, 3, none⟩ = some (.int .i64 t1) := by rw [hw20, epw20', World.cell?_alloc_at _ _ _ _ rfl]; rfl
    have xpw20_4 : w20.cell? ⟨pw20, 4, none⟩ = some (.slice yr18 L1.length qr18) := by rw [hw20, epw20', World.cell?_alloc_at _ _ _ _ rfl]; rfl
    have xpw20_5 : w20.cell? ⟨pw20, 5, none⟩ = some (.slice yr19 M1.length qr19) := by rw [hw20, epw20', World.cell?_alloc_at _ _ _ _ rfl]; rfl
    have hpw20 : pw20 < w20.heap.size := by rw [hw20, epw20', World.size_alloc]; exact Nat.lt_succ_self _
    have hb : Below w16.heap.size w16 w20 := by rw [hw20]; exact (Below.refl _ _).alloc (Nat.le_refl _) _
    have Sw20 := Lib.hid (show w20.heap.size = w16.heap.size + 1 by rw [hw20, World.size_alloc])
    replace xpw1_0 := (hb.cell (p := ⟨pw1, 0, none⟩) hpw1).trans xpw1_0
    replace xpw1_1 := (hb.cell (p := ⟨pw1, 1, none⟩) hpw1).trans xpw1_1
    replace xpw1_2 := (hb.cell (p := ⟨pw1, 2, none⟩) hpw1).trans xpw1_2
    replace xpw1_3 := (hb.cell (p := ⟨pw1, 3, none⟩) hpw1).trans xpw1_3
    replace xpw1_4 := (hb.cell (p := ⟨pw1, 4, none⟩) hpw1).trans xpw1_4
    replace xpw1_5 := (hb.cell (p := ⟨pw1, 5, none⟩) hpw1).trans xpw1_5
    replace hpw1 := Nat.lt_of_lt_of_le hpw1 hb.size
    replace xpw2_0 := (hb.cell (p := ⟨pw2, 0, none⟩) hpw2).trans xpw2_0
    replace xpw2_1 := (hb.cell (p := ⟨pw2, 1, none⟩) hpw2).trans xpw2_1
    replace xpw2_2 := (hb.cell (p := ⟨pw2, 2, none⟩) hpw2).trans xpw2_2
    replace xpw2_3 := (hb.cell (p := ⟨pw2, 3, none⟩) hpw2).trans xpw2_3
    replace xpw2_4 := (hb.cell (p := ⟨pw2, 4, none⟩) hpw2).trans xpw2_4
    replace xpw2_5 := (hb.cell (p := ⟨pw2, 5, none⟩) hpw2).trans xpw2_5
    replace hpw2 := Nat.lt_of_lt_of_le hpw2 hb.size
    replace xpw15_0 := (hb.cell (p := ⟨pw15, 0, none⟩) hpw15).trans xpw15_0
    replace xpw15_1 := (hb.cell (p := ⟨pw15, 1, none⟩) hpw15).trans xpw15_1
    replace xpw15_2 := (hb.cell (p := ⟨pw15, 2, none⟩) hpw15).trans xpw15_2
    replace xpw15_3 := (hb.cell (p := ⟨pw15, 3, none⟩) hpw15).trans xpw15_3
    replace xpw15_4 := (hb.cell (p := ⟨pw15, 4, none⟩) hpw15).trans xpw15_4
    replace xpw15_5 := (hb.cell (p := ⟨pw15, 5, none⟩) hpw15).trans xpw15_5
    replace hpw15 := Nat.lt_of_lt_of_le hpw15 hb.size
    replace HB := Lib.hid (HB.out.trans (hb.mono hz))
    replace hz := Nat.le_trans hz hb.size
    have HZw20 := Lib.hid hb.size
    replace HOr13 := Lib.hid (HOr13.out.later hb)
    replace HOr14 := Lib.hid (HOr14.out.later hb)
    replace HOr18 := Lib.hid (HOr18.out.later hb)
    replace HOr19 := Lib.hid (HOr19.out.later hb)
    replace HA0 := Lib.hid (HA0.out.later hb)
    replace HM0 := Lib.hid (HM0.out.later hb)
    replace HA1 := Lib.hid (HA1.out.later hb)
    replace HM1 := Lib.hid (HM1.out.later hb)
    clear hb
    clear epw20' hw20
    refine (kit.implEqualAcceptors x0 y0 s0 t0 _ _ (.slice yr13 L0.length qr13) (.slice yr14 M0.length qr14) L0 M0 x1 y1 s1 t1 _ _ (.slice yr18 L1.length qr18) (.slice yr19 M1.length qr19) L1 M1 w20 (by omega) (by omega) HOr13.out HOr14.out (by omega) (by omega) HOr18.out HOr19.out).mono ?_
    rintro e w21 ⟨he, hb⟩
    rw [HT1.out] at he
    subst he
    replace xpw1_0 := (hb.cell (p := ⟨pw1, 0, none⟩) hpw1).trans xpw1_0
    replace xpw1_1 := (hb.cell (p := ⟨pw1, 1, none⟩) hpw1).trans xpw1_1
    replace xpw1_2 := (hb.cell (p := ⟨pw1, 2, none⟩) hpw1).trans xpw1_2
    replace xpw1_3 := (hb.cell (p := ⟨pw1, 3, none⟩) hpw1).trans xpw1_3
    replace xpw1_4 := (hb.cell (p := ⟨pw1, 4, none⟩) hpw1).trans xpw1_4
    replace xpw1_5 := (hb.cell (p := ⟨pw1, 5, none⟩) hpw1).trans xpw1_5
    replace hpw1 := Nat.lt_of_lt_of_le hpw1 hb.size
    replace xpw2_0 := (hb.cell (p := ⟨pw2, 0, none⟩) hpw2).trans xpw2_0
    replace xpw2_1 := (hb.cell (p := ⟨pw2, 1, none⟩) hpw2).trans xpw2_1
    replace xpw2_2 := (hb.cell (p := ⟨pw2, 2, none⟩) hpw2).trans xpw2_2
    replace xpw2_3 := (hb.cell (p := ⟨pw2, 3, none⟩) hpw2).trans xpw2_3
    replace xpw2_4 := (hb.cell (p := ⟨pw2, 4, none⟩) hpw2).trans xpw2_4
    replace xpw2_5 := (hb.cell (p := ⟨pw2, 5, none⟩) hpw2).trans xpw2_5
    replace hpw2 := Nat.lt_of_lt_of_le hpw2 hb.size
    replace xpw15_0 := (hb.cell (p := ⟨pw15, 0, none⟩) hpw15).trans xpw15_0
    replace xpw15_1 := (hb.cell (p := ⟨pw15, 1, none⟩) hpw15).trans xpw15_1
    replace xpw15_2 := (hb.cell (p := ⟨pw15, 2, none⟩) hpw15).trans xpw15_2
    replace xpw15_3 := (hb.cell (p := ⟨pw15, 3, none⟩) hpw15).trans xpw15_3
    replace xpw15_4 := (hb.cell (p := ⟨pw15, 4, none⟩) hpw15).trans xpw15_4
    replace xpw15_5 := (hb.cell (p := ⟨pw15, 5, none⟩) hpw15).trans xpw15_5
    replace hpw15 := Nat.lt_of_lt_of_le hpw15 hb.size
    replace xpw20_0 := (hb.cell (p := ⟨pw20, 0, none⟩) hpw20).trans xpw20_0
    replace xpw20_1 := (hb.cell (p := ⟨pw20, 1, none⟩) hpw20).trans xpw20_1
    replace xpw20_2 := (hb.cell (p := ⟨pw20, 2, none⟩) hpw20).trans xpw20_2
    replace xpw20_3 := (hb.cell (p := ⟨pw20, 3, none⟩) hpw20).trans xpw20_3
    replace xpw20_4 := (hb.cell (p := ⟨pw20, 4, none⟩) hpw20).trans xpw20_4
    replace xpw20_5 := (hb.cell (p := ⟨pw20, 5, none⟩) hpw20).trans xpw20_5
    replace hpw20 := Nat.lt_of_lt_of_le hpw20 hb.size
    replace HB := Lib.hid (HB.out.trans (hb.mono hz))
    replace hz := Nat.le_trans hz hb.size
    have HZw21 := Lib.hid hb.size
    replace HOr13 := Lib.hid (HOr13.out.later hb)
    replace HOr14 := Lib.hid (HOr14.out.later hb)
    replace HOr18 := Lib.hid (HOr18.out.later hb)
    replace HOr19 := Lib.hid (HOr19.out.later hb)
    replace HA0 := Lib.hid (HA0.out.later hb)
    replace HM0 := Lib.hid (HM0.out.later hb)
    replace HA1 := Lib.hid (HA1.out.later hb)
    replace HM1 := Lib.hid (HM1.out.later hb)
    clear hb
    go_wp2_with fail
    go_upto_region 14 with (fail)
    go_cut [39] (fun b wx => b = .bool false ∧ Below w21.heap.size w21 wx)
    case first =>
      have hW0 := (Below.refl w21.heap.size w21).drew
      go_region_with (first | (go_at_call 20; (with_reducible refine (kit.toAcceptor x0 y0 s0 t0 a0 c0 L0 b0 d0 M0 _ (by omega) (by omega) (HA0.out.later hW0) (HM0.out.later hW0)).mono ?_); rintro e wa ⟨uI, uS, rfl, hoI, hoS, hb, hap⟩; obtain ⟨ya, qa, rfl⟩ := hoI.shape; obtain ⟨yb, qb, rfl⟩ := hoS.shape; have hB0 := hW0.trans (hb.mono hW0.size); have xpw1_0 := (hB0.cell (p := ⟨pw1, 0, none⟩) hpw1).trans xpw1_0; have xpw1_1 := (hB0.cell (p := ⟨pw1, 1, none⟩) hpw1).trans xpw1_1; have xpw1_2 := (hB0.cell (p := ⟨pw1, 2, none⟩) hpw1).trans xpw1_2; have xpw1_3 := (hB0.cell (p := ⟨pw1, 3, none⟩) hpw1).trans xpw1_3; have xpw1_4 := (hB0.cell (p := ⟨pw1, 4, none⟩) hpw1).trans xpw1_4; have xpw1_5 := (hB0.cell (p := ⟨pw1, 5, none⟩) hpw1).trans xpw1_5; have xpw2_0 := (hB0.cell (p := ⟨pw2, 0, none⟩) hpw2).trans xpw2_0; have xpw2_1 := (hB0.cell (p := ⟨pw2, 1, none⟩) hpw2).trans xpw2_1; have xpw2_2 := (hB0.cell (p := ⟨pw2, 2, none⟩) hpw2).trans xpw2_2; have xpw2_3 := (hB0.cell (p := ⟨pw2, 3, none⟩) hpw2).trans xpw2_3; have xpw2_4 := (hB0.cell (p := ⟨pw2, 4, none⟩) hpw2).trans xpw2_4; have xpw2_5 := (hB0.cell (p := ⟨pw2, 5, none⟩) hpw2).trans xpw2_5; have xpw15_0 := (hB0.cell (p := ⟨pw15, 0, none⟩) hpw15).trans xpw15_0; have xpw15_1 := (hB0.cell (p := ⟨pw15, 1, none⟩) hpw15).trans xpw15_1; have xpw15_2 := (hB0.cell (p := ⟨pw15, 2, none⟩) hpw15).trans xpw15_2; have xpw15_3 := (hB0.cell (p := ⟨pw15, 3, none⟩) hpw15).trans xpw15_3; have xpw15_4 := (hB0.cell (p := ⟨pw15, 4, none⟩) hpw15).trans xpw15_4; have xpw15_5 := (hB0.cell (p := ⟨pw15, 5, none⟩) hpw15).trans xpw15_5; have xpw20_0 := (hB0.cell (p := ⟨pw20, 0, none⟩) hpw20).trans xpw20_0; have xpw20_1 := (hB0.cell (p := ⟨pw20, 1, none⟩) hpw20).trans xpw20_1; have xpw20_2 := (hB0.cell (p := ⟨pw20, 2, none⟩) hpw20).trans xpw20_2; have xpw20_3 := (hB0.cell (p := ⟨pw20, 3, none⟩) hpw20).trans xpw20_3; have xpw20_4 := (hB0.cell (p := ⟨pw20, 4, none⟩) hpw20).trans xpw20_4; have xpw20_5 := (hB0.cell (p := ⟨pw20, 5, none⟩) hpw20).trans xpw20_5; clear hb) | (go_at_call 21; refine (kit.eqAcceptorO x0 y0 s0 t0 _ _ (.slice yr13 L0.length qr13) (.slice yr14 M0.length qr14) L0 M0 x0 y0 s0 t0 _ _ (.slice ya L0.length qa) (.slice yb M0.length qb) L0 M0 _ (by omega) (by omega) (HOr13.out.later hB0) (HOr14.out.later hB0) (by omega) (by omega) hoI hoS).mono ?_; rintro e wz ⟨he, hb⟩; rw [decide_eq_true ⟨rfl, rfl, rfl, rfl, rfl, rfl⟩] at he; subst he; have hB9 := hB0.trans (hb.mono hB0.size); clear hb))
      all_goals
        go_wp2_with fail
        go_meet
        exact ⟨rfl, hB9⟩
    case rest =>
      obtain ⟨rfl, hb⟩ := hcut
      replace xpw1_0 := (hb.cell (p := ⟨pw1, 0, none⟩) hpw1).trans xpw1_0
      replace xpw1_1 := (hb.cell (p := ⟨pw1, 1, none⟩) hpw1).trans xpw1_1
      replace xpw1_2 := (hb.cell (p := ⟨pw1, 2, none⟩) hpw1).trans xpw1_2
      replace xpw1_3 := (hb.cell (p := ⟨pw1, 3, none⟩) hpw1).trans xpw1_3
      replace xpw1_4 := (hb.cell (p := ⟨pw1, 4, none⟩) hpw1).trans xpw1_4
      replace xpw1_5 := (hb.cell (p := ⟨pw1, 5, none⟩) hpw1).trans xpw1_5
      replace hpw1 := Nat.lt_of_lt_of_le hpw1 hb.size
      replace xpw2_0 := (hb.cell (p := ⟨pw2, 0, none⟩) hpw2).trans xpw2_0
      replace xpw2_1 := (hb.cell (p := ⟨pw2, 1, none⟩) hpw2).trans xpw2_1
      replace xpw2_2 := (hb.cell (p := ⟨pw2, 2, none⟩) hpw2).trans xpw2_2
      replace xpw2_3 := (hb.cell (p := ⟨pw2, 3, none⟩) hpw2).trans xpw2_3
      replace xpw2_4 := (hb.cell (p := ⟨pw2, 4, none⟩) hpw2).trans xpw2_4
      replace xpw2_5 := (hb.cell (p := ⟨pw2, 5, none⟩) hpw2).trans xpw2_5
      replace hpw2 := Nat.lt_of_lt_of_le hpw2 hb.size
      replace xpw15_0 := (hb.cell (p := ⟨pw15, 0, none⟩) hpw15).trans xpw15_0
      replace xpw15_1 := (hb.cell (p := ⟨pw15, 1, none⟩) hpw15).trans xpw15_1
      replace xpw15_2 := (hb.cell (p := ⟨pw15, 2, none⟩) hpw15).trans xpw15_2
      replace xpw15_3 := (hb.cell (p := ⟨pw15, 3, none⟩) hpw15).trans xpw15_3
      replace xpw15_4 := (hb.cell (p := ⟨pw15, 4, none⟩) hpw15).trans xpw15_4
      replace xpw15_5 := (hb.cell (p := ⟨pw15, 5, none⟩) hpw15).trans xpw15_5
      replace hpw15 := Nat.lt_of_lt_of_le hpw15 hb.size
      replace xpw20_0 := (hb.cell (p := ⟨pw20, 0, none⟩) hpw20).trans xpw20_0
      replace xpw20_1 := (hb.cell (p := ⟨pw20, 1, none⟩) hpw20).trans xpw20_1
      replace xpw20_2 := (hb.cell (p := ⟨pw20, 2, none⟩) hpw20).trans xpw20_2
      replace xpw20_3 := (hb.cell (p := ⟨pw20, 3, none⟩) hpw20).trans xpw20_3
      replace xpw20_4 := (hb.cell (p := ⟨pw20, 4, none⟩) hpw20).trans xpw20_4
      replace xpw20_5 := (hb.cell (p := ⟨pw20, 5, none⟩) hpw20).trans xpw20_5
      replace hpw20 := Nat.lt_of_lt_of_le hpw20 hb.size
      replace HB := Lib.hid (HB.out.trans (hb.mono hz))
      replace hz := Nat.le_trans hz hb.size
      have HZwc := Lib.hid hb.size
      replace HOr13 := Lib.hid (HOr13.out.later hb)
      replace HOr14 := Lib.hid (HOr14.out.later hb)
      replace HOr18 := Lib.hid (HOr18.out.later hb)
      replace HOr19 := Lib.hid (HOr19.out.later hb)
      replace HA0 := Lib.hid (HA0.out.later hb)
      replace HM0 := Lib.hid (HM0.out.later hb)
      replace HA1 := Lib.hid (HA1.out.later hb)
      replace HM1 := Lib.hid (HM1.out.later hb)
      clear hb
      obtain ⟨w22, rfl⟩ : ∃ W, W = wc := ⟨_, rfl⟩
      go_wp2_with fail
      go_upto_region 16 with (fail)
      go_cut [44] (fun b wx => b = .bool false ∧ Below w22.heap.size w22 wx)
      case first =>
        have hW0 := (Below.refl w22.heap.size w22).drew
        go_region_with (first | (go_at_call 20; (with_reducible refine (kit.toAcceptor x1 y1 s1 t1 a1 c1 L1 b1 d1 M1 _ (by omega) (by omega) (HA1.out.later hW0) (HM1.out.later hW0)).mono ?_); rintro e wa ⟨uI, uS, rfl, hoI, hoS, hb, hap⟩; obtain ⟨ya, qa, rfl⟩ := hoI.shape; obtain ⟨yb, qb, rfl⟩ := hoS.shape; have hB0 := hW0.trans (hb.mono hW0.size); have xpw1_0 := (hB0.cell (p := ⟨pw1, 0, none⟩) hpw1).trans xpw1_0; have xpw1_1 := (hB0.cell (p := ⟨pw1, 1, none⟩) hpw1).trans xpw1_1; have xpw1_2 := (hB0.cell (p := ⟨pw1, 2, none⟩) hpw1).trans xpw1_2; have xpw1_3 := (hB0.cell (p := ⟨pw1, 3, none⟩) hpw1).trans xpw1_3; have xpw1_4 := (hB0.cell (p := ⟨pw1, 4, none⟩) hpw1).trans xpw1_4; have xpw1_5 := (hB0.cell (p := ⟨pw1, 5, none⟩) hpw1).trans xpw1_5; have xpw2_0 := (hB0.cell (p := ⟨pw2, 0, none⟩) hpw2).trans xpw2_0; have xpw2_1 := (hB0.cell (p := ⟨pw2, 1, none⟩) hpw2).trans xpw2_1; have xpw2_2 := (hB0.cell (p := ⟨pw2, 2, none⟩) hpw2).trans xpw2_2; have xpw2_3 := (hB0.cell (p := ⟨pw2, 3, none⟩) hpw2).trans xpw2_3; have xpw2_4 := (hB0.cell (p := ⟨pw2, 4, none⟩) hpw2).trans xpw2_4; have xpw2_5 := (hB0.cell (p := ⟨pw2, 5, none⟩) hpw2).trans xpw2_5; have xpw15_0 := (hB0.cell (p := ⟨pw15, 0, none⟩) hpw15).trans xpw15_0; have xpw15_1 := (hB0.cell (p := ⟨pw15, 1, none⟩) hpw15).trans xpw15_1; have xpw15_2 := (hB0.cell (p := ⟨pw15, 2, none⟩) hpw15).trans xpw15_2; have xpw15_3 := (hB0.cell (p := ⟨pw15, 3, none⟩) hpw15).trans xpw15_3; have xpw15_4 := (hB0.cell (p := ⟨pw15, 4, none⟩) hpw15).trans xpw15_4; have xpw15_5 := (hB0.cell (p := ⟨pw15, 5, none⟩) hpw15).trans xpw15_5; have xpw20_0 := (hB0.cell (p := ⟨pw20, 0, none⟩) hpw20).trans xpw20_0; have xpw20_1 := (hB0.cell (p := ⟨pw20, 1, none⟩) hpw20).trans xpw20_1; have xpw20_2 := (hB0.cell (p := ⟨pw20, 2, none⟩) hpw20).trans xpw20_2; have xpw20_3 := (hB0.cell (p := ⟨pw20, 3, none⟩) hpw20).trans xpw20_3; have xpw20_4 := (hB0.cell (p := ⟨pw20, 4, none⟩) hpw20).trans xpw20_4; have xpw20_5 := (hB0.cell (p := ⟨pw20, 5, none⟩) hpw20).trans xpw20_5; clear hb) | (go_at_call 21; refine (kit.eqAcceptorO x1 y1 s1 t1 _ _ (.slice yr18 L1.length qr18) (.slice yr19 M1.length qr19) L1 M1 x1 y1 s1 t1 _ _ (.slice ya L1.length qa) (.slice yb M1.length qb) L1 M1 _ (by omega) (by omega) (HOr18.out.later hB0) (HOr19.out.later hB0) (by omega) (by omega) hoI hoS).mono ?_; rintro e wz ⟨he, hb⟩; rw [decide_eq_true ⟨rfl, rfl, rfl, rfl, rfl, rfl⟩] at he; subst he; have hB9 := hB0.trans (hb.mono hB0.size); clear hb))
        all_goals
          go_wp2_with fail
          go_meet
          exact ⟨rfl, hB9⟩
      case rest =>
        obtain ⟨rfl, hb⟩ := hcut
        replace xpw1_0 := (hb.cell (p := ⟨pw1, 0, none⟩) hpw1).trans xpw1_0
        replace xpw1_1 := (hb.cell (p := ⟨pw1, 1, none⟩) hpw1).trans xpw1_1
        replace xpw1_2 := (hb.cell (p := ⟨pw1, 2, none⟩) hpw1).trans xpw1_2
        replace xpw1_3 := (hb.cell (p := ⟨pw1, 3, none⟩) hpw1).trans xpw1_3
        replace xpw1_4 := (hb.cell (p := ⟨pw1, 4, none⟩) hpw1).trans xpw1_4
        replace xpw1_5 := (hb.cell (p := ⟨pw1, 5, none⟩) hpw1).trans xpw1_5
        replace hpw1 := Nat.lt_of_lt_of_le hpw1 hb.size
        replace xpw2_0 := (hb.cell (p := ⟨pw2, 0, none⟩) hpw2).trans xpw2_0
        replace xpw2_1 := (hb.cell (p := ⟨pw2, 1, none⟩) hpw2).trans xpw2_1
        replace xpw2_2 := (hb.cell (p := ⟨pw2, 2, none⟩) hpw2).trans xpw2_2
        replace xpw2_3 := (hb.cell (p := ⟨pw2, 3, none⟩) hpw2).trans xpw2_3
        replace xpw2_4 := (hb.cell (p := ⟨pw2, 4, none⟩) hpw2).trans xpw2_4
        replace xpw2_5 := (hb.cell (p := ⟨pw2, 5, none⟩) hpw2).trans xpw2_5
        replace hpw2 := Nat.lt_of_lt_of_le hpw2 hb.size
        replace xpw15_0 := (hb.cell (p := ⟨pw15, 0, none⟩) hpw15).trans xpw15_0
        replace xpw15_1 := (hb.cell (p := ⟨pw15, 1, none⟩) hpw15).trans xpw15_1
        replace xpw15_2 := (hb.cell (p := ⟨pw15, 2, none⟩) hpw15).trans xpw15_2
        replace xpw15_3 := (hb.cell (p := ⟨pw15, 3, none⟩) hpw15).trans xpw15_3
        replace xpw15_4 := (hb.cell (p := ⟨pw15, 4, none⟩) hpw15).trans xpw15_4
        replace xpw15_5 := (hb.cell (p := ⟨pw15, 5, none⟩) hpw15).trans xpw15_5
        replace hpw15 := Nat.lt_of_lt_of_le hpw15 hb.size
        replace xpw20_0 := (hb.cell (p := ⟨pw20, 0, none⟩) hpw20).trans xpw20_0
        replace xpw20_1 := (hb.cell (p := ⟨pw20, 1, none⟩) hpw20).trans xpw20_1
        replace xpw20_2 := (hb.cell (p := ⟨pw20, 2, none⟩) hpw20).trans xpw20_2
        replace xpw20_3 := (hb.cell (p := ⟨pw20, 3, none⟩) hpw20).trans xpw20_3
        replace xpw20_4 := (hb.cell (p := ⟨pw20, 4, none⟩) hpw20).trans xpw20_4
        replace xpw20_5 := (hb.cell (p := ⟨pw20, 5, none⟩) hpw20).trans xpw20_5
        replace hpw20 := Nat.lt_of_lt_of_le hpw20 hb.size
        replace HB := Lib.hid (HB.out.trans (hb.mono hz))
        replace hz := Nat.le_trans hz hb.size
        have HZwc := Lib.hid hb.size
        replace HOr13 := Lib.hid (HOr13.out.later hb)
        replace HOr14 := Lib.hid (HOr14.out.later hb)
        replace HOr18 := Lib.hid (HOr18.out.later hb)
        replace HOr19 := Lib.hid (HOr19.out.later hb)
        replace HA0 := Lib.hid (HA0.out.later hb)
        replace HM0 := Lib.hid (HM0.out.later hb)
        replace HA1 := Lib.hid (HA1.out.later hb)
        replace HM1 := Lib.hid (HM1.out.later hb)
        clear hb
        obtain ⟨w23, rfl⟩ : ∃ W, W = wc := ⟨_, rfl⟩
        go_wp2_with fail
        go_ret
        exact ⟨rfl, HB.out⟩
set_option maxRecDepth 100000 in
theorem lifted (os : Os) (started : os.Started) (H : Type) (enc : TypeId × Value → H) :
    ReturnsInHanded {} Try.checked os 7 .any (Rows.fnExactEqualAcceptorsSpec.pre6 enc Try.prog Try.f7 Rows.fnExactEqualAcceptorsRow.domain false) (Rows.fnExactEqualAcceptorsSpec.post enc Try.prog Try.f7 false true false false) := by
  refine returnsInHanded_of_change (C := Try.checked) kit.own started (by kernel_rfl) Try.func7
    (ChangeSpec.witness6 (enc := enc) (C := Try.checked) false ⟨#[], #[.agg #[.int .i64 0, .int .i64 0, .int .i64 0, .int .i64 0, .slice none 0 0, .slice none 0 0], .agg #[.int .i64 0, .int .i64 0, .int .i64 0, .int .i64 0, .slice none 0 0, .slice none 0 0]], []⟩ 8 (by kernel_rfl) (by kernel_rfl) (by kernel_rfl) (by kernel_rfl)) ?_
  intro W base args ds gs before hval0 hW hcnd _
  have hval : ∀ (j : Nat) t v, Try.f7.params[j]? = some t → args[j]? = some v → Value.okWide Try.prog W .any base t v := hval0
  have hW' := hW
  obtain ⟨p, q, hA0, hV, rfl, hfz, hnd⟩ := hW
  have hA : DataW.TrodAll enc Try.prog W 0 (fun _ => true) true Try.f7.params.toList args.toList ds p := hA0
  rw [Try.params7] at hA hval
  obtain ⟨v0, vs0, d0, ds0, p0, q0, hargs, rfl, rfl, h0, r0⟩ := trodAll_cons hA
  obtain ⟨v1, vs1, d1, ds1, p1, q1, rfl, rfl, rfl, h1, r1⟩ := trodAll_cons r0
  obtain ⟨rfl, rfl, rfl⟩ := trodAll_nil r1
  obtain rfl : args = #[v0, v1] := by cases args; simp_all
  obtain ⟨rfl, rfl⟩ := trodVars_none hV
  have k0 := h0
  have lt0 : ∀ x ∈ p0, x.block < W.heap.size := by obtain ⟨m, hm⟩ := k0; exact DataW.trod_lt m _ _ _ hm
  obtain ⟨x0, y0, s0, t0, a0, c0, L0, b0, e0, M0, rfl, wa0, wb0, wl0, wm0⟩ := kit.open_acceptor (hval 0 41 v0 rfl rfl) h0 lt0
  have k1 := h1
  have lt1 : ∀ x ∈ p1, x.block < W.heap.size := by obtain ⟨m, hm⟩ := k1; exact DataW.trod_lt m _ _ _ hm
  obtain ⟨x1, y1, s1, t1, a1, c1, L1, b1, e1, M1, rfl, wa1, wb1, wl1, wm1⟩ := kit.open_acceptor (hval 1 41 v1 rfl rfl) h1 lt1
  clear hA0 hval0
  refine (walk x0 y0 s0 t0 a0 c0 L0 b0 e0 M0 x1 y1 s1 t1 a1 c1 L1 b1 e1 M1 W wa0 wb0 wl0 wm0 wa1 wb1 wl1 wm1).mono fun e W' ⟨he, bel⟩ => ?_
  subst he
  exact ⟨_, rfl, _, _, _, [], _, [], hW', trodAll_mk1 (shut_bool Try.underlying4 _), (trodAll_cons_mk (Below.trod kit.laidOut (by kernel_rfl) (of_decide_eq_true (by kernel_rfl)) k0 bel lt0) (trodAll_cons_mk (Below.trod kit.laidOut (by kernel_rfl) (of_decide_eq_true (by kernel_rfl)) k1 bel lt1) trodAll_mk0)), rfl, bel.frame _, fun h => by cases h⟩

theorem proved : Rows.FnExactEqualAcceptorsSaid :=
  OpenClaim.holds_of_wide 7 Try.f7 rfl rfl rfl rfl rfl rfl rfl ⟨rfl, rfl, rfl, rfl, rfl⟩ rfl rfl rfl rfl rfl (by kernel_rfl) Try.func7 (by kernel_rfl)
    (of_decide_eq_true (by kernel_rfl)) (by unfold Func.isWrapper; first | (rw [if_pos (by decide +kernel)]; kernel_rfl) | (rw [if_neg (by decide +kernel)]; exact ⟨rfl, rfl⟩))
    (fun os started H enc _ => lifted os started H enc)
end Go.Proofs.Ytgjebjoaemeeoaa.fnExactEqualAcceptors
