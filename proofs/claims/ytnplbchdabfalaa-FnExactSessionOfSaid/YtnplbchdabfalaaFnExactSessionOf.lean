/-
  For every value of the type Machine (the law passes over those with more than 2^20 objects and sessions) and every client, impl's SessionOf returns the same session and bool as the specification's and leaves its argument as it was: the law returns true and changes nothing that was there. No condition.
-/
import Derived.Test.YtnplbchdabfalaaS4Sess
import Derived.Deep.RegionWith
namespace Go.Proofs.Ytnplbchdabfalaa.fnExactSessionOf
open Go.ChangeShapes Go.WideShapes Go.ChangeAt Go.RowKit
set_option linter.unusedVariables false

set_option maxRecDepth 100000 in
set_option maxHeartbeats 16000000 in
theorem walk (a0 : Option Addr) (c0 : Nat) (L0 : List Int) (b0 : Option Addr) (d0 : Nat) (M0 : List kit.Sess) (a1 : Int) (w : World) (wa0 : kit.At w a0 L0) (wb0 : kit.AtS w b0 M0) (wl0 : L0.length ≤ maxLen) (wm0 : M0.length ≤ maxLen) (w1 : (Lit.int .i64 a1).wf = true) :
    Calls Try.prog 7 #[.agg #[.slice a0 L0.length c0, .slice b0 M0.length d0], .int .i64 a1] w fun e w' => e = .returned (.bool true) ∧ Below w.heap.size w w' := by
  unfold maxLen at wl0 wm0
  have HA0' := Lib.hid (kit.at_low wa0)
  have HM0' := Lib.hid (kit.atS_low wb0)
  have HA0 := Lib.hid wa0
  have HM0 := Lib.hid wb0
  clear wa0 wb0
  have HB := Lib.hid (Below.refl w.heap.size w)
  have hz : w.heap.size ≤ w.heap.size := Nat.le_refl _
  go_enter Try.func7, Try.ntmps7
  go_wp2_with fail
  obtain ⟨w1, hw1⟩ : ∃ W, W = w.alloc (.cells #[.slice a0 L0.length c0, .slice b0 M0.length d0] 49) := ⟨_, rfl⟩
  rw [← hw1]
  obtain ⟨pw1, epw1⟩ : ∃ p, p = w.heap.size := ⟨_, rfl⟩
  rw [← epw1]
  have Epw1 := Lib.hid epw1
  have epw1' := Epw1.out
  clear epw1
  have xpw1_0 : w1.cell? ⟨pw1, 0, none⟩ = some (.slice a0 L0.length c0) := by rw [hw1, epw1', World.cell?_alloc_at _ _ _ _ rfl]; rfl
  have xpw1_1 : w1.cell? ⟨pw1, 1, none⟩ = some (.slice b0 M0.length d0) := by rw [hw1, epw1', World.cell?_alloc_at _ _ _ _ rfl]; rfl
  have hpw1 : pw1 < w1.heap.size := by rw [hw1, epw1', World.size_alloc]; exact Nat.lt_succ_self _
  have hb : Below w.heap.size w w1 := by rw [hw1]; exact (Below.refl _ _).alloc (Nat.le_refl _) _
  have Sw1 := Lib.hid (show w1.heap.size = w.heap.size + 1 by rw [hw1, World.size_alloc])
  replace HB := Lib.hid (HB.out.trans (hb.mono hz))
  replace hz := Nat.le_trans hz hb.size
  have HZw1 := Lib.hid hb.size
  replace HA0 := Lib.hid (HA0.out.later hb)
  replace HM0 := Lib.hid (HM0.out.later hb)
  clear hb
  clear epw1' hw1
  refine (kit.szMachine a0 L0.length c0 b0 M0.length d0 (1048576) w1 (by omega) (by omega) (by omega) (by omega)).mono ?_
  rintro e w2 ⟨rfl, hb⟩
  replace xpw1_0 := (hb.cell (p := ⟨pw1, 0, none⟩) hpw1).trans xpw1_0
  replace xpw1_1 := (hb.cell (p := ⟨pw1, 1, none⟩) hpw1).trans xpw1_1
  replace hpw1 := Nat.lt_of_lt_of_le hpw1 hb.size
  replace HB := Lib.hid (HB.out.trans (hb.mono hz))
  replace hz := Nat.le_trans hz hb.size
  have HZw2 := Lib.hid hb.size
  replace HA0 := Lib.hid (HA0.out.later hb)
  replace HM0 := Lib.hid (HM0.out.later hb)
  clear hb
  by_cases hs1 : ¬ (L0.length : Int) + (M0.length : Int) ≤ 1048576
  · rw [show kit.left (1048576) L0.length M0.length = -1 from if_neg hs1]
    go_wp2_with fail
    go_ret
    exact ⟨rfl, HB.out⟩
  replace hs1 := Decidable.not_not.1 hs1
  rw [show kit.left (1048576) L0.length M0.length = 1048576 - (L0.length : Int) - (M0.length : Int) from if_pos hs1]
  go_wp2_with fail
  refine (kit.toMachine a0 c0 L0 b0 d0 M0 w2 (by omega) (by omega) HA0.out HM0.out).mono ?_
  rintro e w3 ⟨u4I, u4S, rfl, hoI, hoS, hb⟩
  obtain ⟨yr5, qr5, rfl⟩ := hoI.shape
  obtain ⟨yr6, qr6, rfl⟩ := hoS.shape
  replace xpw1_0 := (hb.cell (p := ⟨pw1, 0, none⟩) hpw1).trans xpw1_0
  replace xpw1_1 := (hb.cell (p := ⟨pw1, 1, none⟩) hpw1).trans xpw1_1
  replace hpw1 := Nat.lt_of_lt_of_le hpw1 hb.size
  replace HB := Lib.hid (HB.out.trans (hb.mono hz))
  replace hz := Nat.le_trans hz hb.size
  have HZw3 := Lib.hid hb.size
  replace HA0 := Lib.hid (HA0.out.later hb)
  replace HM0 := Lib.hid (HM0.out.later hb)
  have HOr5 := Lib.hid hoI
  have HUr5 := Lib.hid hoI.block
  clear hoI
  have HOr6 := Lib.hid hoS
  have HUr6 := Lib.hid hoS.block
  clear hoS
  clear hb
  go_wp2_with fail
  refine (kit.specSessionOf _ _ (.slice yr5 L0.length qr5) (.slice yr6 M0.length qr6) L0 M0 a1 w3 (by omega) (by omega) HOr5.out HOr6.out).mono ?_
  rintro e w7 ⟨he, hb⟩
  try unfold kit.sessV at he
  generalize hT1 : (kit.sessOf M0 a1).1 = T1 at he
  have HT1 := Lib.hid hT1
  clear hT1
  generalize hT2 : (kit.sessOf M0 a1).2.1 = T2 at he
  have HT2 := Lib.hid hT2
  clear hT2
  generalize hT3 : (kit.sessOf M0 a1).2.2.1 = T3 at he
  have HT3 := Lib.hid hT3
  clear hT3
  generalize hT4 : (kit.sessOf M0 a1).2.2.2 = T4 at he
  have HT4 := Lib.hid hT4
  clear hT4
  generalize hT5 : kit.hasSess M0 a1 = T5 at he
  have HT5 := Lib.hid hT5
  clear hT5
  subst he
  replace xpw1_0 := (hb.cell (p := ⟨pw1, 0, none⟩) hpw1).trans xpw1_0
  replace xpw1_1 := (hb.cell (p := ⟨pw1, 1, none⟩) hpw1).trans xpw1_1
  replace hpw1 := Nat.lt_of_lt_of_le hpw1 hb.size
  replace HB := Lib.hid (HB.out.trans (hb.mono hz))
  replace hz := Nat.le_trans hz hb.size
  have HZw7 := Lib.hid hb.size
  replace HOr5 := Lib.hid (HOr5.out.later hb)
  replace HOr6 := Lib.hid (HOr6.out.later hb)
  replace HA0 := Lib.hid (HA0.out.later hb)
  replace HM0 := Lib.hid (HM0.out.later hb)
  clear hb
  go_wp2_with fail
  obtain ⟨w8, hw8⟩ : ∃ W, W = w7.alloc (.cells #[.int .i64 T1, .int .i64 T2, .bool T3, .int .i64 T4] 39) := ⟨_, rfl⟩
  rw [← hw8]
  obtain ⟨pw8, epw8⟩ : ∃ p, p = w7.heap.size := ⟨_, rfl⟩
  rw [← epw8]
  have Epw8 := Lib.hid epw8
  have epw8' := Epw8.out
  clear epw8
  have xpw8_0 : w8.cell? ⟨pw8, 0, none⟩ = some (.int .i64 T1) := by rw [hw8, epw8', World.cell?_alloc_at _ _ _ _ rfl]; rfl
  have xpw8_1 : w8.cell? ⟨pw8, 1, none⟩ = some (.int .i64 T2) := by rw [hw8, epw8', World.cell?_alloc_at _ _ _ _ rfl]; rfl
  have xpw8_2 : w8.cell? ⟨pw8, 2, none⟩ = some (.bool T3) := by rw [hw8, epw8', World.cell?_alloc_at _ _ _ _ rfl]; rfl
  have xpw8_3 : w8.cell? ⟨pw8, 3, none⟩ = some (.int .i64 T4) := by rw [hw8, epw8', World.cell?_alloc_at _ _ _ _ rfl]; rfl
  have hpw8 : pw8 < w8.heap.size := by rw [hw8, epw8', World.size_alloc]; exact Nat.lt_succ_self _
  have hb : Below w7.heap.size w7 w8 := by rw [hw8]; exact (Below.refl _ _).alloc (Nat.le_refl _) _
  have Sw8 := Lib.hid (show w8.heap.size = w7.heap.size + 1 by rw [hw8, World.size_alloc])
  replace xpw1_0 := (hb.cell (p := ⟨pw1, 0, none⟩) hpw1).trans xpw1_0
  replace xpw1_1 := (hb.cell (p := ⟨pw1, 1, none⟩) hpw1).trans xpw1_1
  replace hpw1 := Nat.lt_of_lt_of_le hpw1 hb.size
  replace HB := Lib.hid (HB.out.trans (hb.mono hz))
  replace hz := Nat.le_trans hz hb.size
  have HZw8 := Lib.hid hb.size
  replace HOr5 := Lib.hid (HOr5.out.later hb)
  replace HOr6 := Lib.hid (HOr6.out.later hb)
  replace HA0 := Lib.hid (HA0.out.later hb)
  replace HM0 := Lib.hid (HM0.out.later hb)
  clear hb
  clear epw8' hw8
  refine (kit.toMachine a0 c0 L0 b0 d0 M0 w8 (by omega) (by omega) HA0.out HM0.out).mono ?_
  rintro e w9 ⟨u10I, u10S, rfl, hoI, hoS, hb⟩
  obtain ⟨yr11, qr11, rfl⟩ := hoI.shape
  obtain ⟨yr12, qr12, rfl⟩ := hoS.shape
  replace xpw1_0 := (hb.cell (p := ⟨pw1, 0, none⟩) hpw1).trans xpw1_0
  replace xpw1_1 := (hb.cell (p := ⟨pw1, 1, none⟩) hpw1).trans xpw1_1
  replace hpw1 := Nat.lt_of_lt_of_le hpw1 hb.size
  replace xpw8_0 := (hb.cell (p := ⟨pw8, 0, none⟩) hpw8).trans xpw8_0
  replace xpw8_1 := (hb.cell (p := ⟨pw8, 1, none⟩) hpw8).trans xpw8_1
  replace xpw8_2 := (hb.cell (p := ⟨pw8, 2, none⟩) hpw8).trans xpw8_2
  replace xpw8_3 := (hb.cell (p := ⟨pw8, 3, none⟩) hpw8).trans xpw8_3
  replace hpw8 := Nat.lt_of_lt_of_le hpw8 hb.size
  replace HB := Lib.hid (HB.out.trans (hb.mono hz))
  replace hz := Nat.le_trans hz hb.size
  have HZw9 := Lib.hid hb.size
  replace HOr5 := Lib.hid (HOr5.out.later hb)
  replace HOr6 := Lib.hid (HOr6.out.later hb)
  replace HA0 := Lib.hid (HA0.out.later hb)
  replace HM0 := Lib.hid (HM0.out.later hb)
  have HOr11 := Lib.hid hoI
  have HUr11 := Lib.hid hoI.block
  clear hoI
  have HOr12 := Lib.hid hoS
  have HUr12 := Lib.hid hoS.block
  clear hoS
  clear hb
  go_wp2_with fail
  obtain ⟨w13, hw13⟩ : ∃ W, W = w9.alloc (.cells #[.slice yr11 L0.length qr11, .slice yr12 M0.length qr12] 27) := ⟨_, rfl⟩
  rw [← hw13]
  obtain ⟨pw13, epw13⟩ : ∃ p, p = w9.heap.size := ⟨_, rfl⟩
  rw [← epw13]
  have Epw13 := Lib.hid epw13
  have epw13' := Epw13.out
  clear epw13
  have xpw13_0 : w13.cell? ⟨pw13, 0, none⟩ = some (.slice yr11 L0.length qr11) := by rw [hw13, epw13', World.cell?_alloc_at _ _ _ _ rfl]; rfl
  have xpw13_1 : w13.cell? ⟨pw13, 1, none⟩ = some (.slice yr12 M0.length qr12) := by rw [hw13, epw13', World.cell?_alloc_at _ _ _ _ rfl]; rfl
  have hpw13 : pw13 < w13.heap.size := by rw [hw13, epw13', World.size_alloc]; exact Nat.lt_succ_self _
  have hb : Below w9.heap.size w9 w13 := by rw [hw13]; exact (Below.refl _ _).alloc (Nat.le_refl _) _
  have Sw13 := Lib.hid (show w13.heap.size = w9.heap.size + 1 by rw [hw13, World.size_alloc])
  replace xpw1_0 := (hb.cell (p := ⟨pw1, 0, none⟩) hpw1).trans xpw1_0
  replace xpw1_1 := (hb.cell (p := ⟨pw1, 1, none⟩) hpw1).trans xpw1_1
  replace hpw1 := Nat.lt_of_lt_of_le hpw1 hb.size
  replace xpw8_0 := (hb.cell (p := ⟨pw8, 0, none⟩) hpw8).trans xpw8_0
  replace xpw8_1 := (hb.cell (p := ⟨pw8, 1, none⟩) hpw8).trans xpw8_1
  replace xpw8_2 := (hb.cell (p := ⟨pw8, 2, none⟩) hpw8).trans xpw8_2
  replace xpw8_3 := (hb.cell (p := ⟨pw8, 3, none⟩) hpw8).trans xpw8_3
  replace hpw8 := Nat.lt_of_lt_of_le hpw8 hb.size
  replace HB := Lib.hid (HB.out.trans (hb.mono hz))
  replace hz := Nat.le_trans hz hb.size
  have HZw13 := Lib.hid hb.size
  replace HOr5 := Lib.hid (HOr5.out.later hb)
  replace HOr6 := Lib.hid (HOr6.out.later hb)
  replace HOr11 := Lib.hid (HOr11.out.later hb)
  replace HOr12 := Lib.hid (HOr12.out.later hb)
  replace HA0 := Lib.hid (HA0.out.later hb)
  replace HM0 := Lib.hid (HM0.out.later hb)
  clear hb
  clear epw13' hw13
  refine (kit.implSessionOf _ _ (.slice yr11 L0.length qr11) (.slice yr12 M0.length qr12) L0 M0 a1 w13 (by omega) (by omega) HOr11.out HOr12.out).mono ?_
  rintro e w14 ⟨he, hb⟩
  try unfold kit.sessV at he
  rw [HT1.out] at he
  rw [HT2.out] at he
  rw [HT3.out] at he
  rw [HT4.out] at he
  rw [HT5.out] at he
  subst he
  replace xpw1_0 := (hb.cell (p := ⟨pw1, 0, none⟩) hpw1).trans xpw1_0
  replace xpw1_1 := (hb.cell (p := ⟨pw1, 1, none⟩) hpw1).trans xpw1_1
  replace hpw1 := Nat.lt_of_lt_of_le hpw1 hb.size
  replace xpw8_0 := (hb.cell (p := ⟨pw8, 0, none⟩) hpw8).trans xpw8_0
  replace xpw8_1 := (hb.cell (p := ⟨pw8, 1, none⟩) hpw8).trans xpw8_1
  replace xpw8_2 := (hb.cell (p := ⟨pw8, 2, none⟩) hpw8).trans xpw8_2
  replace xpw8_3 := (hb.cell (p := ⟨pw8, 3, none⟩) hpw8).trans xpw8_3
  replace hpw8 := Nat.lt_of_lt_of_le hpw8 hb.size
  replace xpw13_0 := (hb.cell (p := ⟨pw13, 0, none⟩) hpw13).trans xpw13_0
  replace xpw13_1 := (hb.cell (p := ⟨pw13, 1, none⟩) hpw13).trans xpw13_1
  replace hpw13 := Nat.lt_of_lt_of_le hpw13 hb.size
  replace HB := Lib.hid (HB.out.trans (hb.mono hz))
  replace hz := Nat.le_trans hz hb.size
  have HZw14 := Lib.hid hb.size
  replace HOr5 := Lib.hid (HOr5.out.later hb)
  replace HOr6 := Lib.hid (HOr6.out.later hb)
  replace HOr11 := Lib.hid (HOr11.out.later hb)
  replace HOr12 := Lib.hid (HOr12.out.later hb)
  replace HA0 := Lib.hid (HA0.out.later hb)
  replace HM0 := Lib.hid (HM0.out.later hb)
  clear hb
  go_wp2_with fail
  obtain ⟨w15, hw15⟩ : ∃ W, W = w14.alloc (.cells #[.int .i64 T1, .int .i64 T2, .bool T3, .int .i64 T4] 39) := ⟨_, rfl⟩
  rw [← hw15]
  obtain ⟨pw15, epw15⟩ : ∃ p, p = w14.heap.size := ⟨_, rfl⟩
  rw [← epw15]
  have Epw15 := Lib.hid epw15
  have epw15' := Epw15.out
  clear epw15
  have xpw15_0 : w15.cell? ⟨pw15, 0, none⟩ = some (.int .i64 T1) := by rw [hw15, epw15', World.cell?_alloc_at _ _ _ _ rfl]; rfl
  have xpw15_1 : w15.cell? ⟨pw15, 1, none⟩ = some (.int .i64 T2) := by rw [hw15, epw15', World.cell?_alloc_at _ _ _ _ rfl]; rfl
  have xpw15_2 : w15.cell? ⟨pw15, 2, none⟩ = some (.bool T3) := by rw [hw15, epw15', World.cell?_alloc_at _ _ _ _ rfl]; rfl
  have xpw15_3 : w15.cell? ⟨pw15, 3, none⟩ = some (.int .i64 T4) := by rw [hw15, epw15', World.cell?_alloc_at _ _ _ _ rfl]; rfl
  have hpw15 : pw15 < w15.heap.size := by rw [hw15, epw15', World.size_alloc]; exact Nat.lt_succ_self _
  have hb : Below w14.heap.size w14 w15 := by rw [hw15]; exact (Below.refl _ _).alloc (Nat.le_refl _) _
  have Sw15 := Lib.hid (show w15.heap.size = w14.heap.size + 1 by rw [hw15, World.size_alloc])
  replace xpw1_0 := (hb.cell (p := ⟨pw1, 0, none⟩) hpw1).trans xpw1_0
  replace xpw1_1 := (hb.cell (p := ⟨pw1, 1, none⟩) hpw1).trans xpw1_1
  replace hpw1 := Nat.lt_of_lt_of_le hpw1 hb.size
  replace xpw8_0 := (hb.cell (p := ⟨pw8, 0, none⟩) hpw8).trans xpw8_0
  replace xpw8_1 := (hb.cell (p := ⟨pw8, 1, none⟩) hpw8).trans xpw8_1
  replace xpw8_2 := (hb.cell (p := ⟨pw8, 2, none⟩) hpw8).trans xpw8_2
  replace xpw8_3 := (hb.cell (p := ⟨pw8, 3, none⟩) hpw8).trans xpw8_3
  replace hpw8 := Nat.lt_of_lt_of_le hpw8 hb.size
  replace xpw13_0 := (hb.cell (p := ⟨pw13, 0, none⟩) hpw13).trans xpw13_0
  replace xpw13_1 := (hb.cell (p := ⟨pw13, 1, none⟩) hpw13).trans xpw13_1
  replace hpw13 := Nat.lt_of_lt_of_le hpw13 hb.size
  replace HB := Lib.hid (HB.out.trans (hb.mono hz))
  replace hz := Nat.le_trans hz hb.size
  have HZw15 := Lib.hid hb.size
  replace HOr5 := Lib.hid (HOr5.out.later hb)
  replace HOr6 := Lib.hid (HOr6.out.later hb)
  replace HOr11 := Lib.hid (HOr11.out.later hb)
  replace HOr12 := Lib.hid (HOr12.out.later hb)
  replace HA0 := Lib.hid (HA0.out.later hb)
  replace HM0 := Lib.hid (HM0.out.later hb)
  clear hb
  clear epw15' hw15
  refine (kit.eqSession (T1, T2, T3, T4) (T1, T2, T3, T4) w15).mono ?_
  rintro e w16 ⟨he, hb⟩
  rw [decide_eq_true rfl] at he
  subst he
  replace xpw1_0 := (hb.cell (p := ⟨pw1, 0, none⟩) hpw1).trans xpw1_0
  replace xpw1_1 := (hb.cell (p := ⟨pw1, 1, none⟩) hpw1).trans xpw1_1
  replace hpw1 := Nat.lt_of_lt_of_le hpw1 hb.size
  replace xpw8_0 := (hb.cell (p := ⟨pw8, 0, none⟩) hpw8).trans xpw8_0
  replace xpw8_1 := (hb.cell (p := ⟨pw8, 1, none⟩) hpw8).trans xpw8_1
  replace xpw8_2 := (hb.cell (p := ⟨pw8, 2, none⟩) hpw8).trans xpw8_2
  replace xpw8_3 := (hb.cell (p := ⟨pw8, 3, none⟩) hpw8).trans xpw8_3
  replace hpw8 := Nat.lt_of_lt_of_le hpw8 hb.size
  replace xpw13_0 := (hb.cell (p := ⟨pw13, 0, none⟩) hpw13).trans xpw13_0
  replace xpw13_1 := (hb.cell (p := ⟨pw13, 1, none⟩) hpw13).trans xpw13_1
  replace hpw13 := Nat.lt_of_lt_of_le hpw13 hb.size
  replace xpw15_0 := (hb.cell (p := ⟨pw15, 0, none⟩) hpw15).trans xpw15_0
  replace xpw15_1 := (hb.cell (p := ⟨pw15, 1, none⟩) hpw15).trans xpw15_1
  replace xpw15_2 := (hb.cell (p := ⟨pw15, 2, none⟩) hpw15).trans xpw15_2
  replace xpw15_3 := (hb.cell (p := ⟨pw15, 3, none⟩) hpw15).trans xpw15_3
  replace hpw15 := Nat.lt_of_lt_of_le hpw15 hb.size
  replace HB := Lib.hid (HB.out.trans (hb.mono hz))
  replace hz := Nat.le_trans hz hb.size
  have HZw16 := Lib.hid hb.size
  replace HOr5 := Lib.hid (HOr5.out.later hb)
  replace HOr6 := Lib.hid (HOr6.out.later hb)
  replace HOr11 := Lib.hid (HOr11.out.later hb)
  replace HOr12 := Lib.hid (HOr12.out.later hb)
  replace HA0 := Lib.hid (HA0.out.later hb)
  replace HM0 := Lib.hid (HM0.out.later hb)
  clear hb
  go_wp2_with fail
  go_upto_region 10 with (fail)
  go_cut [44] (fun b wx => b = .bool false ∧ Below w16.heap.size w16 wx)
  case first =>
    have hW0 := (Below.refl w16.heap.size w16).drew
    go_region_with (first | (go_at_call 26; (with_reducible refine (kit.toMachine a0 c0 L0 b0 d0 M0 _ (by omega) (by omega) (HA0.out.later hW0) (HM0.out.later hW0)).mono ?_); rintro e wa ⟨uI, uS, rfl, hoI, hoS, hb⟩; obtain ⟨ya, qa, rfl⟩ := hoI.shape; obtain ⟨yb, qb, rfl⟩ := hoS.shape; have hB0 := hW0.trans (hb.mono hW0.size); have xpw1_0 := (hB0.cell (p := ⟨pw1, 0, none⟩) hpw1).trans xpw1_0; have xpw1_1 := (hB0.cell (p := ⟨pw1, 1, none⟩) hpw1).trans xpw1_1; have xpw8_0 := (hB0.cell (p := ⟨pw8, 0, none⟩) hpw8).trans xpw8_0; have xpw8_1 := (hB0.cell (p := ⟨pw8, 1, none⟩) hpw8).trans xpw8_1; have xpw8_2 := (hB0.cell (p := ⟨pw8, 2, none⟩) hpw8).trans xpw8_2; have xpw8_3 := (hB0.cell (p := ⟨pw8, 3, none⟩) hpw8).trans xpw8_3; have xpw13_0 := (hB0.cell (p := ⟨pw13, 0, none⟩) hpw13).trans xpw13_0; have xpw13_1 := (hB0.cell (p := ⟨pw13, 1, none⟩) hpw13).trans xpw13_1; have xpw15_0 := (hB0.cell (p := ⟨pw15, 0, none⟩) hpw15).trans xpw15_0; have xpw15_1 := (hB0.cell (p := ⟨pw15, 1, none⟩) hpw15).trans xpw15_1; have xpw15_2 := (hB0.cell (p := ⟨pw15, 2, none⟩) hpw15).trans xpw15_2; have xpw15_3 := (hB0.cell (p := ⟨pw15, 3, none⟩) hpw15).trans xpw15_3; clear hb) | (go_at_call 22; refine (kit.eqMachineO _ _ (.slice yr11 L0.length qr11) (.slice yr12 M0.length qr12) L0 M0 _ _ (.slice ya L0.length qa) (.slice yb M0.length qb) L0 M0 _ (by omega) (by omega) (HOr11.out.later hB0) (HOr12.out.later hB0) (by omega) (by omega) hoI hoS).mono ?_; rintro e wz ⟨he, hb⟩; rw [decide_eq_true ⟨rfl, rfl⟩] at he; subst he; have hB9 := hB0.trans (hb.mono hB0.size); clear hb))
    all_goals
      go_wp2_with fail
      go_meet
      exact ⟨rfl, hB9⟩
  case rest =>
    obtain ⟨rfl, hb⟩ := hcut
    replace xpw1_0 := (hb.cell (p := ⟨pw1, 0, none⟩) hpw1).trans xpw1_0
    replace xpw1_1 := (hb.cell (p := ⟨pw1, 1, none⟩) hpw1).trans xpw1_1
    replace hpw1 := Nat.lt_of_lt_of_le hpw1 hb.size
    replace xpw8_0 := (hb.cell (p := ⟨pw8, 0, none⟩) hpw8).trans xpw8_0
    replace xpw8_1 := (hb.cell (p := ⟨pw8, 1, none⟩) hpw8).trans xpw8_1
    replace xpw8_2 := (hb.cell (p := ⟨pw8, 2, none⟩) hpw8).trans xpw8_2
    replace xpw8_3 := (hb.cell (p := ⟨pw8, 3, none⟩) hpw8).trans xpw8_3
    replace hpw8 := Nat.lt_of_lt_of_le hpw8 hb.size
    replace xpw13_0 := (hb.cell (p := ⟨pw13, 0, none⟩) hpw13).trans xpw13_0
    replace xpw13_1 := (hb.cell (p := ⟨pw13, 1, none⟩) hpw13).trans xpw13_1
    replace hpw13 := Nat.lt_of_lt_of_le hpw13 hb.size
    replace xpw15_0 := (hb.cell (p := ⟨pw15, 0, none⟩) hpw15).trans xpw15_0
    replace xpw15_1 := (hb.cell (p := ⟨pw15, 1, none⟩) hpw15).trans xpw15_1
    replace xpw15_2 := (hb.cell (p := ⟨pw15, 2, none⟩) hpw15).trans xpw15_2
    replace xpw15_3 := (hb.cell (p := ⟨pw15, 3, none⟩) hpw15).trans xpw15_3
    replace hpw15 := Nat.lt_of_lt_of_le hpw15 hb.size
    replace HB := Lib.hid (HB.out.trans (hb.mono hz))
    replace hz := Nat.le_trans hz hb.size
    have HZwc := Lib.hid hb.size
    replace HOr5 := Lib.hid (HOr5.out.later hb)
    replace HOr6 := Lib.hid (HOr6.out.later hb)
    replace HOr11 := Lib.hid (HOr11.out.later hb)
    replace HOr12 := Lib.hid (HOr12.out.later hb)
    replace HA0 := Lib.hid (HA0.out.later hb)
    replace HM0 := Lib.hid (HM0.out.later hb)
    clear hb
    obtain ⟨w17, rfl⟩ : ∃ W, W = wc := ⟨_, rfl⟩
    go_wp2_with fail
    go_ret
    exact ⟨rfl, HB.out⟩
set_option maxRecDepth 100000 in
theorem lifted (os : Os) (started : os.Started) (H : Type) (enc : TypeId × Value → H) :
    ReturnsInHanded {} Try.checked os 7 .any (Rows.fnExactSessionOfSpec.pre6 enc Try.prog Try.f7 Rows.fnExactSessionOfRow.domain false) (Rows.fnExactSessionOfSpec.post enc Try.prog Try.f7 false true false false) := by
  refine returnsInHanded_of_change (C := Try.checked) kit.own started (by kernel_rfl) Try.func7
    (ChangeSpec.witness6 (enc := enc) (C := Try.checked) false ⟨#[], #[.agg #[.slice none 0 0, .slice none 0 0], .int .i64 0], []⟩ 8 (by kernel_rfl) (by kernel_rfl) (by kernel_rfl) (by kernel_rfl)) ?_
  intro W base args ds gs before hval0 hW hcnd _
  have hval : ∀ (j : Nat) t v, Try.f7.params[j]? = some t → args[j]? = some v → Value.okWide Try.prog W .any base t v := hval0
  have hW' := hW
  obtain ⟨p, q, hA0, hV, rfl, hfz, hnd⟩ := hW
  have hA : DataW.TrodAll enc Try.prog W 0 (fun _ => true) true Try.f7.params.toList args.toList ds p := hA0
  rw [Try.params7] at hA hval
  obtain ⟨v0, vs0, d0, ds0, p0, q0, hargs, rfl, rfl, h0, r0⟩ := trodAll_cons hA
  obtain ⟨v1, vs1, d1, ds1, p1, q1, rfl, rfl, rfl, h1, r1⟩ := trodAll_cons r0
  obtain ⟨rfl, rfl, rfl⟩ := trodAll_nil r1
  obtain rfl : args = #[v0, v1] := by cases args; simp_all
  obtain ⟨rfl, rfl⟩ := trodVars_none hV
  have k0 := h0
  have lt0 : ∀ x ∈ p0, x.block < W.heap.size := by obtain ⟨m, hm⟩ := k0; exact DataW.trod_lt m _ _ _ hm
  obtain ⟨a0, c0, L0, b0, e0, M0, rfl, wa0, wb0, wl0, wm0⟩ := kit.open_machine (hval 0 49 v0 rfl rfl) h0 lt0
  obtain ⟨a1, rfl, rfl, rfl, w1⟩ := open_int Try.underlying3 (hval 1 3 v1 rfl rfl) h1
  clear hA0 hval0
  refine (walk a0 c0 L0 b0 e0 M0 a1 W wa0 wb0 wl0 wm0 w1).mono fun e W' ⟨he, bel⟩ => ?_
  subst he
  exact ⟨_, rfl, _, _, _, [], _, [], hW', trodAll_mk1 (shut_bool Try.underlying4 _), (trodAll_cons_mk (Below.trod kit.laidOut (by kernel_rfl) (of_decide_eq_true (by kernel_rfl)) k0 bel lt0) (trodAll_cons_mk (shut_int Try.underlying3 w1) trodAll_mk0)), rfl, bel.frame _, fun h => by cases h⟩

theorem proved : Rows.FnExactSessionOfSaid :=
  OpenClaim.holds_of_wide 7 Try.f7 rfl rfl rfl rfl rfl rfl rfl ⟨rfl, rfl, rfl, rfl, rfl⟩ rfl rfl rfl rfl rfl (by kernel_rfl) Try.func7 (by kernel_rfl)
    (of_decide_eq_true (by kernel_rfl)) (by unfold Func.isWrapper; first | (rw [if_pos (by decide +kernel)]; kernel_rfl) | (rw [if_neg (by decide +kernel)]; exact ⟨rfl, rfl⟩))
    (fun os started H enc _ => lifted os started H enc)
end Go.Proofs.Ytnplbchdabfalaa.fnExactSessionOf
