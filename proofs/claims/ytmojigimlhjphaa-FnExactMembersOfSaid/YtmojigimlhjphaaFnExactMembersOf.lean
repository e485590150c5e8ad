/-
  For every Config (the law passes over those with more than 2^20 elements), impl's MembersOf returns the same list as the specification's, in memory of its own, and leaves its argument as it was: the law returns true and changes nothing that was there. No condition.
-/
import Derived.Test.YtmojigimlhjphaaS8Impl
import Derived.Test.YtmojigimlhjphaaS8Spec
import Derived.Test.YtmojigimlhjphaaIntRow
import Derived.Deep.RegionWith
import Derived.Deep.DeepCutAuto
namespace Go.Proofs.Ytmojigimlhjphaa.fnExactMembersOf
open Go.ChangeShapes Go.WideShapes Go.ChangeAt Go.RowKit
open Go.ChangeMaps (open_string shut_string)
set_option linter.unusedVariables false

set_option maxRecDepth 100000 in
set_option maxHeartbeats 16000000 in
theorem walk (x0 y0 : Int) (a0 : Option Addr) (c0 : Nat) (L0 : List Int) (b0 : Option Addr) (d0 : Nat) (M0 : List Int) (w : World) (wa0 : kit.At w a0 L0) (wb0 : kit.At w b0 M0) (wl0 : L0.length ≤ maxLen) (wm0 : M0.length ≤ maxLen) :
    Calls Try.prog 9 #[.agg #[.int .i64 x0, .int .i64 y0, .slice a0 L0.length c0, .slice b0 M0.length d0]] w fun e w' => e = .returned (.bool true) ∧ Below w.heap.size w w' := by
  unfold maxLen at wl0 wm0
  have HA0' := Lib.hid (kit.at_low wa0)
  have HM0' := Lib.hid (kit.at_low wb0)
  have HA0 := Lib.hid wa0
  have HM0 := Lib.hid wb0
  clear wa0 wb0
  have HB := Lib.hid (Below.refl w.heap.size w)
  have hz : w.heap.size ≤ w.heap.size := Nat.le_refl _
  go_enter Try.func9, Try.ntmps9
  go_wp2_with fail
  obtain ⟨w1, hw1⟩ : ∃ W, W = w.alloc (.cells #[.int .i64 x0, .int .i64 y0, .slice a0 L0.length c0, .slice b0 M0.length d0] 45) := ⟨_, rfl⟩
  rw [← hw1]
  obtain ⟨pw1, epw1⟩ : ∃ p, p = w.heap.size := ⟨_, rfl⟩
  rw [← epw1]
  have Epw1 := Lib.hid epw1
  have epw1' := Epw1.out
  clear epw1
  have xpw1_0 : w1.cell? ⟨pw1, 0, none⟩ = some (.int .i64 x0) := by rw [hw1, epw1', World.cell?_alloc_at _ _ _ _ rfl]; rfl
  have xpw1_1 : w1.cell? ⟨pw1, 1, none⟩ = some (.int .i64 y0) := by rw [hw1, epw1', World.cell?_alloc_at _ _ _ _ rfl]; rfl
  have xpw1_2 : w1.cell? ⟨pw1, 2, none⟩ = some (.slice a0 L0.length c0) := by rw [hw1, epw1', World.cell?_alloc_at _ _ _ _ rfl]; rfl
  have xpw1_3 : w1.cell? ⟨pw1, 3, none⟩ = some (.slice b0 M0.length d0) := by rw [hw1, epw1', World.cell?_alloc_at _ _ _ _ rfl]; rfl
  have hpw1 : pw1 < w1.heap.size := by rw [hw1, epw1', World.size_alloc]; exact Nat.lt_succ_self _
  have hb : Below w.heap.size w w1 := by rw [hw1]; exact (Below.refl _ _).alloc (Nat.le_refl _) _
  have Sw1 := Lib.hid (show w1.heap.size = w.heap.size + 1 by rw [hw1, World.size_alloc])
  replace HB := Lib.hid (HB.out.trans (hb.mono hz))
  replace hz := Nat.le_trans hz hb.size
  have HZw1 := Lib.hid hb.size
  replace HA0 := Lib.hid (HA0.out.later hb)
  replace HM0 := Lib.hid (HM0.out.later hb)
  clear hb
  clear epw1' hw1
  refine (kit.szConfig x0 y0 a0 L0.length c0 b0 M0.length d0 (1048576) w1 (by omega) (by omega) (by omega) (by omega)).mono ?_
  rintro e w2 ⟨rfl, hb⟩
  replace xpw1_0 := (hb.cell (p := ⟨pw1, 0, none⟩) hpw1).trans xpw1_0
  replace xpw1_1 := (hb.cell (p := ⟨pw1, 1, none⟩) hpw1).trans xpw1_1
  replace xpw1_2 := (hb.cell (p := ⟨pw1, 2, none⟩) hpw1).trans xpw1_2
  replace xpw1_3 := (hb.cell (p := ⟨pw1, 3, none⟩) hpw1).trans xpw1_3
  replace hpw1 := Nat.lt_of_lt_of_le hpw1 hb.size
  replace HB := Lib.hid (HB.out.trans (hb.mono hz))
  replace hz := Nat.le_trans hz hb.size
  have HZw2 := Lib.hid hb.size
  replace HA0 := Lib.hid (HA0.out.later hb)
  replace HM0 := Lib.hid (HM0.out.later hb)
  clear hb
  by_cases hs1 : ¬ (L0.length : Int) + (M0.length : Int) ≤ 1048576
  · rw [show kit.left (1048576) L0.length M0.length = -1 from if_neg hs1]
    go_wp2_with fail
    go_ret
    exact ⟨rfl, HB.out⟩
  replace hs1 := Decidable.not_not.1 hs1
  rw [show kit.left (1048576) L0.length M0.length = 1048576 - (L0.length : Int) - (M0.length : Int) from if_pos hs1]
  go_wp2_with fail
  refine (kit.toConfig x0 y0 a0 c0 L0 b0 d0 M0 w2 (by omega) (by omega) HA0.out HM0.out).mono ?_
  rintro e w3 ⟨u4I, u4S, rfl, hoI, hoS, hb, hap⟩
  obtain ⟨yr5, qr5, rfl⟩ := hoI.shape
  obtain ⟨yr6, qr6, rfl⟩ := hoS.shape
  have HPr5 := Lib.hid hap
  clear hap
  replace xpw1_0 := (hb.cell (p := ⟨pw1, 0, none⟩) hpw1).trans xpw1_0
  replace xpw1_1 := (hb.cell (p := ⟨pw1, 1, none⟩) hpw1).trans xpw1_1
  replace xpw1_2 := (hb.cell (p := ⟨pw1, 2, none⟩) hpw1).trans xpw1_2
  replace xpw1_3 := (hb.cell (p := ⟨pw1, 3, none⟩) hpw1).trans xpw1_3
  replace hpw1 := Nat.lt_of_lt_of_le hpw1 hb.size
  replace HB := Lib.hid (HB.out.trans (hb.mono hz))
  replace hz := Nat.le_trans hz hb.size
  have HZw3 := Lib.hid hb.size
  replace HA0 := Lib.hid (HA0.out.later hb)
  replace HM0 := Lib.hid (HM0.out.later hb)
  have HOr5 := Lib.hid hoI
  have HUr5 := Lib.hid hoI.block
  clear hoI
  have HOr6 := Lib.hid hoS
  have HUr6 := Lib.hid hoS.block
  clear hoS
  clear hb
  go_wp2_with fail
  refine (kit.specMembersOf x0 y0 _ _ (.slice yr5 L0.length qr5) (.slice yr6 M0.length qr6) L0 M0 w3 (by omega) (by omega) HOr5.out HOr6.out).mono ?_
  rintro e w7 ⟨uI, he, hoI, hb⟩
  generalize hT1 : kit.memC x0 y0 L0 M0 = T1 at hoI
  have lT1 : T1.length ≤ 4194304 := by rw [← hT1]; exact kit.memC_len _ _ _ _ (by omega) (by omega)
  have HT1 := Lib.hid hT1
  clear hT1
  obtain ⟨yr8, qr8, rfl⟩ := hoI.shape
  subst he
  replace xpw1_0 := (hb.cell (p := ⟨pw1, 0, none⟩) hpw1).trans xpw1_0
  replace xpw1_1 := (hb.cell (p := ⟨pw1, 1, none⟩) hpw1).trans xpw1_1
  replace xpw1_2 := (hb.cell (p := ⟨pw1, 2, none⟩) hpw1).trans xpw1_2
  replace xpw1_3 := (hb.cell (p := ⟨pw1, 3, none⟩) hpw1).trans xpw1_3
  replace hpw1 := Nat.lt_of_lt_of_le hpw1 hb.size
  replace HB := Lib.hid (HB.out.trans (hb.mono hz))
  replace hz := Nat.le_trans hz hb.size
  have HZw7 := Lib.hid hb.size
  replace HOr5 := Lib.hid (HOr5.out.later hb)
  replace HOr6 := Lib.hid (HOr6.out.later hb)
  replace HA0 := Lib.hid (HA0.out.later hb)
  replace HM0 := Lib.hid (HM0.out.later hb)
  have HOr8 := Lib.hid hoI
  have HUr8 := Lib.hid hoI.block
  clear hoI
  clear hb
  go_wp2_with fail
  refine (kit.toConfig x0 y0 a0 c0 L0 b0 d0 M0 w7 (by omega) (by omega) HA0.out HM0.out).mono ?_
  rintro e w9 ⟨u10I, u10S, rfl, hoI, hoS, hb, hap⟩
  obtain ⟨yr11, qr11, rfl⟩ := hoI.shape
  obtain ⟨yr12, qr12, rfl⟩ := hoS.shape
  have HPr11 := Lib.hid hap
  clear hap
  replace xpw1_0 := (hb.cell (p := ⟨pw1, 0, none⟩) hpw1).trans xpw1_0
  replace xpw1_1 := (hb.cell (p := ⟨pw1, 1, none⟩) hpw1).trans xpw1_1
  replace xpw1_2 := (hb.cell (p := ⟨pw1, 2, none⟩) hpw1).trans xpw1_2
  replace xpw1_3 := (hb.cell (p := ⟨pw1, 3, none⟩) hpw1).trans xpw1_3
  replace hpw1 := Nat.lt_of_lt_of_le hpw1 hb.size
  replace HB := Lib.hid (HB.out.trans (hb.mono hz))
  replace hz := Nat.le_trans hz hb.size
  have HZw9 := Lib.hid hb.size
  replace HOr5 := Lib.hid (HOr5.out.later hb)
  replace HOr6 := Lib.hid (HOr6.out.later hb)
  replace HOr8 := Lib.hid (HOr8.out.later hb)
  replace HA0 := Lib.hid (HA0.out.later hb)
  replace HM0 := Lib.hid (HM0.out.later hb)
  have HOr11 := Lib.hid hoI
  have HUr11 := Lib.hid hoI.block
  clear hoI
  have HOr12 := Lib.hid hoS
  have HUr12 := Lib.hid hoS.block
  clear hoS
  clear hb
  go_wp2_with fail
  obtain ⟨w13, hw13⟩ : ∃ W, W = w9.alloc (.cells #[.int .i64 x0, .int .i64 y0, .slice yr11 L0.length qr11, .slice yr12 M0.length qr12] 34) := ⟨_, rfl⟩
  rw [← hw13]
  obtain ⟨pw13, epw13⟩ : ∃ p, p = w9.heap.size := ⟨_, rfl⟩
  rw [← epw13]
  have Epw13 := Lib.hid epw13
  have epw13' := Epw13.out
  clear epw13
  have xpw13_0 : w13.cell? ⟨pw13, 0, none⟩ = some (.int .i64 x0) := by rw [hw13, epw13', World.cell?_alloc_at _ _ _ _ rfl]; rfl
  have xpw13_1 : w13.cell? ⟨pw13, 1, none⟩ = some (.int .i64 y0) := by rw [hw13, epw13', World.cell?_alloc_at _ _ _ _ rfl]; rfl
  have xpw13_2 : w13.cell? ⟨pw13, 2, none⟩ = some (.slice yr11 L0.length qr11) := by rw [hw13, epw13', World.cell?_alloc_at _ _ _ _ rfl]; rfl
  have xpw13_3 : w13.cell? ⟨pw13, 3, none⟩ = some (.slice yr12 M0.length qr12) := by rw [hw13, epw13', World.cell?_alloc_at _ _ _ _ rfl]; rfl
  have hpw13 : pw13 < w13.heap.size := by rw [hw13, epw13', World.size_alloc]; exact Nat.lt_succ_self _
  have hb : Below w9.heap.size w9 w13 := by rw [hw13]; exact (Below.refl _ _).alloc (Nat.le_refl _) _
  have Sw13 := Lib.hid (show w13.heap.size = w9.heap.size + 1 by rw [hw13, World.size_alloc])
  replace xpw1_0 := (hb.cell (p := ⟨pw1, 0, none⟩) hpw1).trans xpw1_0
  replace xpw1_1 := (hb.cell (p := ⟨pw1, 1, none⟩) hpw1).trans xpw1_1
  replace xpw1_2 := (hb.cell (p := ⟨pw1, 2, none⟩) hpw1).trans xpw1_2
  replace xpw1_3 := (hb.cell (p := ⟨pw1, 3, none⟩) hpw1).trans xpw1_3
  replace hpw1 := Nat.lt_of_lt_of_le hpw1 hb.size
  replace HB := Lib.hid (HB.out.trans (hb.mono hz))
  replace hz := Nat.le_trans hz hb.size
  have HZw13 := Lib.hid hb.size
  replace HOr5 := Lib.hid (HOr5.out.later hb)
  replace HOr6 := Lib.hid (HOr6.out.later hb)
  replace HOr8 := Lib.hid (HOr8.out.later hb)
  replace HOr11 := Lib.hid (HOr11.out.later hb)
  replace HOr12 := Lib.hid (HOr12.out.later hb)
  replace HA0 := Lib.hid (HA0.out.later hb)
  replace HM0 := Lib.hid (HM0.out.later hb)
  clear hb
  clear epw13' hw13
  refine (kit.implMembersOf x0 y0 _ _ (.slice yr11 L0.length qr11) (.slice yr12 M0.length qr12) L0 M0 w13 (by omega) (by omega) HOr11.out HOr12.out).mono ?_
  rintro e w14 ⟨uI, he, hoI, hb⟩
  rw [HT1.out] at hoI
  obtain ⟨yr15, qr15, rfl⟩ := hoI.shape
  subst he
  replace xpw1_0 := (hb.cell (p := ⟨pw1, 0, none⟩) hpw1).trans xpw1_0
  replace xpw1_1 := (hb.cell (p := ⟨pw1, 1, none⟩) hpw1).trans xpw1_1
  replace xpw1_2 := (hb.cell (p := ⟨pw1, 2, none⟩) hpw1).trans xpw1_2
  replace xpw1_3 := (hb.cell (p := ⟨pw1, 3, none⟩) hpw1).trans xpw1_3
  replace hpw1 := Nat.lt_of_lt_of_le hpw1 hb.size
  replace xpw13_0 := (hb.cell (p := ⟨pw13, 0, none⟩) hpw13).trans xpw13_0
  replace xpw13_1 := (hb.cell (p := ⟨pw13, 1, none⟩) hpw13).trans xpw13_1
  replace xpw13_2 := (hb.cell (p := ⟨pw13, 2, none⟩) hpw13).trans xpw13_2
  replace xpw13_3 := (hb.cell (p := ⟨pw13, 3, none⟩) hpw13).trans xpw13_3
  replace hpw13 := Nat.lt_of_lt_of_le hpw13 hb.size
  replace HB := Lib.hid (HB.out.trans (hb.mono hz))
  replace hz := Nat.le_trans hz hb.size
  have HZw14 := Lib.hid hb.size
  replace HOr5 := Lib.hid (HOr5.out.later hb)
  replace HOr6 := Lib.hid (HOr6.out.later hb)
  replace HOr8 := Lib.hid (HOr8.out.later hb)
  replace HOr11 := Lib.hid (HOr11.out.later hb)
  replace HOr12 := Lib.hid (HOr12.out.later hb)
  replace HA0 := Lib.hid (HA0.out.later hb)
  replace HM0 := Lib.hid (HM0.out.later hb)
  have HOr15 := Lib.hid hoI
  have HUr15 := Lib.hid hoI.block
  clear hoI
  clear hb
  go_wp2_with fail
  refine (kit.eqIntSO _ _ (.slice yr15 T1.length qr15) (.slice yr8 T1.length qr8) T1 T1 w14 (by omega) (by omega) HOr15.out HOr8.out).mono ?_
  rintro e w16 ⟨he, hb⟩
  rw [decide_eq_true rfl] at he
  subst he
  replace xpw1_0 := (hb.cell (p := ⟨pw1, 0, none⟩) hpw1).trans xpw1_0
  replace xpw1_1 := (hb.cell (p := ⟨pw1, 1, none⟩) hpw1).trans xpw1_1
  replace xpw1_2 := (hb.cell (p := ⟨pw1, 2, none⟩) hpw1).trans xpw1_2
  replace xpw1_3 := (hb.cell (p := ⟨pw1, 3, none⟩) hpw1).trans xpw1_3
  replace hpw1 := Nat.lt_of_lt_of_le hpw1 hb.size
  replace xpw13_0 := (hb.cell (p := ⟨pw13, 0, none⟩) hpw13).trans xpw13_0
  replace xpw13_1 := (hb.cell (p := ⟨pw13, 1, none⟩) hpw13).trans xpw13_1
  replace xpw13_2 := (hb.cell (p := ⟨pw13, 2, none⟩) hpw13).trans xpw13_2
  replace xpw13_3 := (hb.cell (p := ⟨pw13, 3, none⟩) hpw13).trans xpw13_3
  replace hpw13 := Nat.lt_of_lt_of_le hpw13 hb.size
  replace HB := Lib.hid (HB.out.trans (hb.mono hz))
  replace hz := Nat.le_trans hz hb.size
  have HZw16 := Lib.hid hb.size
  replace HOr5 := Lib.hid (HOr5.out.later hb)
  replace HOr6 := Lib.hid (HOr6.out.later hb)
  replace HOr8 := Lib.hid (HOr8.out.later hb)
  replace HOr11 := Lib.hid (HOr11.out.later hb)
  replace HOr12 := Lib.hid (HOr12.out.later hb)
  replace HOr15 := Lib.hid (HOr15.out.later hb)
  replace HA0 := Lib.hid (HA0.out.later hb)
  replace HM0 := Lib.hid (HM0.out.later hb)
  clear hb
  go_wp2_with fail
  go_upto_region 10 with (fail)
  go_cut [31] (fun b wx => b = .bool false ∧ Below w16.heap.size w16 wx)
  case first =>
    have hW0 := (Below.refl w16.heap.size w16).drew
    go_region_with (first | (go_at_call 43; (with_reducible refine (kit.toConfig x0 y0 a0 c0 L0 b0 d0 M0 _ (by omega) (by omega) (HA0.out.later hW0) (HM0.out.later hW0)).mono ?_); rintro e wa ⟨uI, uS, rfl, hoI, hoS, hb, hap⟩; obtain ⟨ya, qa, rfl⟩ := hoI.shape; obtain ⟨yb, qb, rfl⟩ := hoS.shape; have hB0 := hW0.trans (hb.mono hW0.size); have xpw1_0 := (hB0.cell (p := ⟨pw1, 0, none⟩) hpw1).trans xpw1_0; have xpw1_1 := (hB0.cell (p := ⟨pw1, 1, none⟩) hpw1).trans xpw1_1; have xpw1_2 := (hB0.cell (p := ⟨pw1, 2, none⟩) hpw1).trans xpw1_2; have xpw1_3 := (hB0.cell (p := ⟨pw1, 3, none⟩) hpw1).trans xpw1_3; have xpw13_0 := (hB0.cell (p := ⟨pw13, 0, none⟩) hpw13).trans xpw13_0; have xpw13_1 := (hB0.cell (p := ⟨pw13, 1, none⟩) hpw13).trans xpw13_1; have xpw13_2 := (hB0.cell (p := ⟨pw13, 2, none⟩) hpw13).trans xpw13_2; have xpw13_3 := (hB0.cell (p := ⟨pw13, 3, none⟩) hpw13).trans xpw13_3; clear hb) | (go_at_call 44; refine (kit.eqConfigO x0 y0 _ _ (.slice yr11 L0.length qr11) (.slice yr12 M0.length qr12) L0 M0 x0 y0 _ _ (.slice ya L0.length qa) (.slice yb M0.length qb) L0 M0 _ (by omega) (by omega) (HOr11.out.later hB0) (HOr12.out.later hB0) (by omega) (by omega) hoI hoS).mono ?_; rintro e wz ⟨he, hb⟩; rw [decide_eq_true ⟨rfl, rfl, rfl, rfl⟩] at he; subst he; have hB9 := hB0.trans (hb.mono hB0.size); clear hb))
    all_goals
      go_wp2_with fail
      go_meet
      exact ⟨rfl, hB9⟩
  case rest =>
    obtain ⟨rfl, hb⟩ := hcut
    replace xpw1_0 := (hb.cell (p := ⟨pw1, 0, none⟩) hpw1).trans xpw1_0
    replace xpw1_1 := (hb.cell (p := ⟨pw1, 1, none⟩) hpw1).trans xpw1_1
    replace xpw1_2 := (hb.cell (p := ⟨pw1, 2, none⟩) hpw1).trans xpw1_2
    replace xpw1_3 := (hb.cell (p := ⟨pw1, 3, none⟩) hpw1).trans xpw1_3
    replace hpw1 := Nat.lt_of_lt_of_le hpw1 hb.size
    replace xpw13_0 := (hb.cell (p := ⟨pw13, 0, none⟩) hpw13).trans xpw13_0
    replace xpw13_1 := (hb.cell (p := ⟨pw13, 1, none⟩) hpw13).trans xpw13_1
    replace xpw13_2 := (hb.cell (p := ⟨pw13, 2, none⟩) hpw13).trans xpw13_2
    replace xpw13_3 := (hb.cell (p := ⟨pw13, 3, none⟩) hpw13).trans xpw13_3
    replace hpw13 := Nat.lt_of_lt_of_le hpw13 hb.size
    replace HB := Lib.hid (HB.out.trans (hb.mono hz))
    replace hz := Nat.le_trans hz hb.size
    have HZwc := Lib.hid hb.size
    replace HOr5 := Lib.hid (HOr5.out.later hb)
    replace HOr6 := Lib.hid (HOr6.out.later hb)
    replace HOr8 := Lib.hid (HOr8.out.later hb)
    replace HOr11 := Lib.hid (HOr11.out.later hb)
    replace HOr12 := Lib.hid (HOr12.out.later hb)
    replace HOr15 := Lib.hid (HOr15.out.later hb)
    replace HA0 := Lib.hid (HA0.out.later hb)
    replace HM0 := Lib.hid (HM0.out.later hb)
    clear hb
    obtain ⟨w17, rfl⟩ : ∃ W, W = wc := ⟨_, rfl⟩
    go_wp2_with fail
    refine (kit.markConfig x0 y0 _ _ (.slice yr11 L0.length qr11) (.slice yr12 M0.length qr12) L0 M0 w17 (by omega) (by omega) HOr11.out HOr12.out HPr11.out 1 rfl).mono ?_
    rintro e w18 ⟨rfl, hoI, hoS, wa, wb, hA, hg1, hg2⟩
    have hap1 := HPr11.out
    have hb : Below w.heap.size w17 w18 := ((hA.mono hz).grown hg1 (Nat.le_trans hz hA.size) (fun g h => by have := HUr11.out g h; have := Epw1.out; have := Sw1.out; have := HZw1.out; have := HZw2.out; have := HZw3.out; have := HZw7.out; have := HZw9.out; have := Epw13.out; have := Sw13.out; have := HZw13.out; have := HZw14.out; have := HZw16.out; have := HZwc.out; omega)).grown hg2 (Nat.le_trans hz (Nat.le_trans hA.size hg1.size)) (fun g h => by have := HUr12.out g h; have := Epw1.out; have := Sw1.out; have := HZw1.out; have := HZw2.out; have := HZw3.out; have := HZw7.out; have := HZw9.out; have := Epw13.out; have := Sw13.out; have := HZw13.out; have := HZw14.out; have := HZw16.out; have := HZwc.out; omega)
    have hs : w17.heap.size ≤ w18.heap.size := hb.size
    replace xpw1_0 := (World.cell?_of_block (a := ⟨pw1, 0, none⟩) (kit.still hA hg1 hg2 (b := pw1) hpw1 (fun e => by have := HUr11.out _ e; have := Epw1.out; have := Sw1.out; have := HZw1.out; have := HZw2.out; have := HZw3.out; have := HZw7.out; have := HZw9.out; have := Epw13.out; have := Sw13.out; have := HZw13.out; have := HZw14.out; have := HZw16.out; have := HZwc.out; omega) (fun e => by have := HUr12.out _ e; have := Epw1.out; have := Sw1.out; have := HZw1.out; have := HZw2.out; have := HZw3.out; have := HZw7.out; have := HZw9.out; have := Epw13.out; have := Sw13.out; have := HZw13.out; have := HZw14.out; have := HZw16.out; have := HZwc.out; omega))).trans xpw1_0
    replace xpw1_1 := (World.cell?_of_block (a := ⟨pw1, 1, none⟩) (kit.still hA hg1 hg2 (b := pw1) hpw1 (fun e => by have := HUr11.out _ e; have := Epw1.out; have := Sw1.out; have := HZw1.out; have := HZw2.out; have := HZw3.out; have := HZw7.out; have := HZw9.out; have := Epw13.out; have := Sw13.out; have := HZw13.out; have := HZw14.out; have := HZw16.out; have := HZwc.out; omega) (fun e => by have := HUr12.out _ e; have := Epw1.out; have := Sw1.out; have := HZw1.out; have := HZw2.out; have := HZw3.out; have := HZw7.out; have := HZw9.out; have := Epw13.out; have := Sw13.out; have := HZw13.out; have := HZw14.out; have := HZw16.out; have := HZwc.out; omega))).trans xpw1_1
    replace xpw1_2 := (World.cell?_of_block (a := ⟨pw1, 2, none⟩) (kit.still hA hg1 hg2 (b := pw1) hpw1 (fun e => by have := HUr11.out _ e; have := Epw1.out; have := Sw1.out; have := HZw1.out; have := HZw2.out; have := HZw3.out; have := HZw7.out; have := HZw9.out; have := Epw13.out; have := Sw13.out; have := HZw13.out; have := HZw14.out; have := HZw16.out; have := HZwc.out; omega) (fun e => by have := HUr12.out _ e; have := Epw1.out; have := Sw1.out; have := HZw1.out; have := HZw2.out; have := HZw3.out; have := HZw7.out; have := HZw9.out; have := Epw13.out; have := Sw13.out; have := HZw13.out; have := HZw14.out; have := HZw16.out; have := HZwc.out; omega))).trans xpw1_2
    replace xpw1_3 := (World.cell?_of_block (a := ⟨pw1, 3, none⟩) (kit.still hA hg1 hg2 (b := pw1) hpw1 (fun e => by have := HUr11.out _ e; have := Epw1.out; have := Sw1.out; have := HZw1.out; have := HZw2.out; have := HZw3.out; have := HZw7.out; have := HZw9.out; have := Epw13.out; have := Sw13.out; have := HZw13.out; have := HZw14.out; have := HZw16.out; have := HZwc.out; omega) (fun e => by have := HUr12.out _ e; have := Epw1.out; have := Sw1.out; have := HZw1.out; have := HZw2.out; have := HZw3.out; have := HZw7.out; have := HZw9.out; have := Epw13.out; have := Sw13.out; have := HZw13.out; have := HZw14.out; have := HZw16.out; have := HZwc.out; omega))).trans xpw1_3
    replace hpw1 := Nat.lt_of_lt_of_le hpw1 hs
    replace xpw13_0 := (World.cell?_of_block (a := ⟨pw13, 0, none⟩) (kit.still hA hg1 hg2 (b := pw13) hpw13 (fun e => by have := HUr11.out _ e; have := Epw1.out; have := Sw1.out; have := HZw1.out; have := HZw2.out; have := HZw3.out; have := HZw7.out; have := HZw9.out; have := Epw13.out; have := Sw13.out; have := HZw13.out; have := HZw14.out; have := HZw16.out; have := HZwc.out; omega) (fun e => by have := HUr12.out _ e; have := Epw1.out; have := Sw1.out; have := HZw1.out; have := HZw2.out; have := HZw3.out; have := HZw7.out; have := HZw9.out; have := Epw13.out; have := Sw13.out; have := HZw13.out; have := HZw14.out; have := HZw16.out; have := HZwc.out; omega))).trans xpw13_0
    replace xpw13_1 := (World.cell?_of_block (a := ⟨pw13, 1, none⟩) (kit.still hA hg1 hg2 (b := pw13) hpw13 (fun e => by have := HUr11.out _ e; have := Epw1.out; have := Sw1.out; have := HZw1.out; have := HZw2.out; have := HZw3.out; have := HZw7.out; have := HZw9.out; have := Epw13.out; have := Sw13.out; have := HZw13.out; have := HZw14.out; have := HZw16.out; have := HZwc.out; omega) (fun e => by have := HUr12.out _ e; have := Epw1.out; have := Sw1.out; have := HZw1.out; have := HZw2.out; have := HZw3.out; have := HZw7.out; have := HZw9.out; have := Epw13.out; have := Sw13.out; have := HZw13.out; have := HZw14.out; have := HZw16.out; have := HZwc.out; omega))).trans xpw13_1
    replace xpw13_2 := (World.cell?_of_block (a := ⟨pw13, 2, none⟩) (kit.still hA hg1 hg2 (b := pw13) hpw13 (fun e => by have := HUr11.out _ e; have := Epw1.out; have := Sw1.out; have := HZw1.out; have := HZw2.out; have := HZw3.out; have := HZw7.out; have := HZw9.out; have := Epw13.out; have := Sw13.out; have := HZw13.out; have := HZw14.out; have := HZw16.out; have := HZwc.out; omega) (fun e => by have := HUr12.out _ e; have := Epw1.out; have := Sw1.out; have := HZw1.out; have := HZw2.out; have := HZw3.out; have := HZw7.out; have := HZw9.out; have := Epw13.out; have := Sw13.out; have := HZw13.out; have := HZw14.out; have := HZw16.out; have := HZwc.out; omega))).trans xpw13_2
    replace xpw13_3 := (World.cell?_of_block (a := ⟨pw13, 3, none⟩) (kit.still hA hg1 hg2 (b := pw13) hpw13 (fun e => by have := HUr11.out _ e; have := Epw1.out; have := Sw1.out; have := HZw1.out; have := HZw2.out; have := HZw3.out; have := HZw7.out; have := HZw9.out; have := Epw13.out; have := Sw13.out; have := HZw13.out; have := HZw14.out; have := HZw16.out; have := HZwc.out; omega) (fun e => by have := HUr12.out _ e; have := Epw1.out; have := Sw1.out; have := HZw1.out; have := HZw2.out; have := HZw3.out; have := HZw7.out; have := HZw9.out; have := Epw13.out; have := Sw13.out; have := HZw13.out; have := HZw14.out; have := HZw16.out; have := HZwc.out; omega))).trans xpw13_3
    replace hpw13 := Nat.lt_of_lt_of_le hpw13 hs
    replace HOr5 := Lib.hid (((HOr5.out.later hA).marked hg1 (fun g a c => by have h3 := HUr11.out g a; have h4 := HUr5.out g c; have := Epw1.out; have := Sw1.out; have := HZw1.out; have := HZw2.out; have := HZw3.out; have := HZw7.out; have := HZw9.out; have := Epw13.out; have := Sw13.out; have := HZw13.out; have := HZw14.out; have := HZw16.out; have := HZwc.out; omega)).marked hg2 (fun g a c => by have h3 := HUr12.out g a; have h4 := HUr5.out g c; have := Epw1.out; have := Sw1.out; have := HZw1.out; have := HZw2.out; have := HZw3.out; have := HZw7.out; have := HZw9.out; have := Epw13.out; have := Sw13.out; have := HZw13.out; have := HZw14.out; have := HZw16.out; have := HZwc.out; omega))
    replace HOr6 := Lib.hid (((HOr6.out.later hA).marked hg1 (fun g a c => by have h3 := HUr11.out g a; have h4 := HUr6.out g c; have := Epw1.out; have := Sw1.out; have := HZw1.out; have := HZw2.out; have := HZw3.out; have := HZw7.out; have := HZw9.out; have := Epw13.out; have := Sw13.out; have := HZw13.out; have := HZw14.out; have := HZw16.out; have := HZwc.out; omega)).marked hg2 (fun g a c => by have h3 := HUr12.out g a; have h4 := HUr6.out g c; have := Epw1.out; have := Sw1.out; have := HZw1.out; have := HZw2.out; have := HZw3.out; have := HZw7.out; have := HZw9.out; have := Epw13.out; have := Sw13.out; have := HZw13.out; have := HZw14.out; have := HZw16.out; have := HZwc.out; omega))
    replace HOr8 := Lib.hid (((HOr8.out.later hA).marked hg1 (fun g a c => by have h3 := HUr11.out g a; have h4 := HUr8.out g c; have := Epw1.out; have := Sw1.out; have := HZw1.out; have := HZw2.out; have := HZw3.out; have := HZw7.out; have := HZw9.out; have := Epw13.out; have := Sw13.out; have := HZw13.out; have := HZw14.out; have := HZw16.out; have := HZwc.out; omega)).marked hg2 (fun g a c => by have h3 := HUr12.out g a; have h4 := HUr8.out g c; have := Epw1.out; have := Sw1.out; have := HZw1.out; have := HZw2.out; have := HZw3.out; have := HZw7.out; have := HZw9.out; have := Epw13.out; have := Sw13.out; have := HZw13.out; have := HZw14.out; have := HZw16.out; have := HZwc.out; omega))
    replace HOr15 := Lib.hid (((HOr15.out.later hA).marked hg1 (fun g a c => by have h3 := HUr11.out g a; have h4 := HUr15.out g c; have := Epw1.out; have := Sw1.out; have := HZw1.out; have := HZw2.out; have := HZw3.out; have := HZw7.out; have := HZw9.out; have := Epw13.out; have := Sw13.out; have := HZw13.out; have := HZw14.out; have := HZw16.out; have := HZwc.out; omega)).marked hg2 (fun g a c => by have h3 := HUr12.out g a; have h4 := HUr15.out g c; have := Epw1.out; have := Sw1.out; have := HZw1.out; have := HZw2.out; have := HZw3.out; have := HZw7.out; have := HZw9.out; have := Epw13.out; have := Sw13.out; have := HZw13.out; have := HZw14.out; have := HZw16.out; have := HZwc.out; omega))
    replace HA0 := Lib.hid (HA0.out.below hb (HA0'.out))
    replace HM0 := Lib.hid (HM0.out.below hb (HM0'.out))
    replace HB := Lib.hid (HB.out.trans hb)
    replace hz := Nat.le_trans hz hs
    have HZw18 := Lib.hid hs
    replace HOr11 := Lib.hid hoI
    replace HOr12 := Lib.hid hoS
    clear hap1 hb hs hA hg1 hg2 hoI hoS
    go_wp2_with fail
    refine (kit.eqIntSO _ _ (.slice yr15 T1.length qr15) (.slice yr8 T1.length qr8) T1 T1 w18 (by omega) (by omega) HOr15.out HOr8.out).mono ?_
    rintro e w19 ⟨he, hb⟩
    rw [decide_eq_true rfl] at he
    subst he
    replace xpw1_0 := (hb.cell (p := ⟨pw1, 0, none⟩) hpw1).trans xpw1_0
    replace xpw1_1 := (hb.cell (p := ⟨pw1, 1, none⟩) hpw1).trans xpw1_1
    replace xpw1_2 := (hb.cell (p := ⟨pw1, 2, none⟩) hpw1).trans xpw1_2
    replace xpw1_3 := (hb.cell (p := ⟨pw1, 3, none⟩) hpw1).trans xpw1_3
    replace hpw1 := Nat.lt_of_lt_of_le hpw1 hb.size
    replace xpw13_0 := (hb.cell (p := ⟨pw13, 0, none⟩) hpw13).trans xpw13_0
    replace xpw13_1 := (hb.cell (p := ⟨pw13, 1, none⟩) hpw13).trans xpw13_1
    replace xpw13_2 := (hb.cell (p := ⟨pw13, 2, none⟩) hpw13).trans xpw13_2
    replace xpw13_3 := (hb.cell (p := ⟨pw13, 3, none⟩) hpw13).trans xpw13_3
    replace hpw13 := Nat.lt_of_lt_of_le hpw13 hb.size
    replace HB := Lib.hid (HB.out.trans (hb.mono hz))
    replace hz := Nat.le_trans hz hb.size
    have HZw19 := Lib.hid hb.size
    replace HOr5 := Lib.hid (HOr5.out.later hb)
    replace HOr6 := Lib.hid (HOr6.out.later hb)
    replace HOr8 := Lib.hid (HOr8.out.later hb)
    replace HOr11 := Lib.hid (HOr11.out.later hb)
    replace HOr12 := Lib.hid (HOr12.out.later hb)
    replace HOr15 := Lib.hid (HOr15.out.later hb)
    replace HA0 := Lib.hid (HA0.out.later hb)
    replace HM0 := Lib.hid (HM0.out.later hb)
    clear hb
    go_wp2_with fail
    refine (kit.markIntS _ (1) (.slice yr15 T1.length qr15) T1 w19 (by omega) (by omega) (by omega) HOr15.out).mono ?_
    rintro e w20 ⟨rfl, ho, hg1⟩
    have hb : Below w.heap.size w19 w20 := (Below.refl w.heap.size w19).grown hg1 hz (fun g h => by have := HUr15.out g h; have := Epw1.out; have := Sw1.out; have := HZw1.out; have := HZw2.out; have := HZw3.out; have := HZw7.out; have := HZw9.out; have := Epw13.out; have := Sw13.out; have := HZw13.out; have := HZw14.out; have := HZw16.out; have := HZwc.out; have := HZw18.out; have := HZw19.out; omega)
    have hs : w19.heap.size ≤ w20.heap.size := hb.size
    replace xpw1_0 := (World.cell?_of_block (a := ⟨pw1, 0, none⟩) (hg1.block pw1 hpw1 (fun e => by have := HUr15.out _ e.symm; have := Epw1.out; have := Sw1.out; have := HZw1.out; have := HZw2.out; have := HZw3.out; have := HZw7.out; have := HZw9.out; have := Epw13.out; have := Sw13.out; have := HZw13.out; have := HZw14.out; have := HZw16.out; have := HZwc.out; have := HZw18.out; have := HZw19.out; omega))).trans xpw1_0
    replace xpw1_1 := (World.cell?_of_block (a := ⟨pw1, 1, none⟩) (hg1.block pw1 hpw1 (fun e => by have := HUr15.out _ e.symm; have := Epw1.out; have := Sw1.out; have := HZw1.out; have := HZw2.out; have := HZw3.out; have := HZw7.out; have := HZw9.out; have := Epw13.out; have := Sw13.out; have := HZw13.out; have := HZw14.out; have := HZw16.out; have := HZwc.out; have := HZw18.out; have := HZw19.out; omega))).trans xpw1_1
    replace xpw1_2 := (World.cell?_of_block (a := ⟨pw1, 2, none⟩) (hg1.block pw1 hpw1 (fun e => by have := HUr15.out _ e.symm; have := Epw1.out; have := Sw1.out; have := HZw1.out; have := HZw2.out; have := HZw3.out; have := HZw7.out; have := HZw9.out; have := Epw13.out; have := Sw13.out; have := HZw13.out; have := HZw14.out; have := HZw16.out; have := HZwc.out; have := HZw18.out; have := HZw19.out; omega))).trans xpw1_2
    replace xpw1_3 := (World.cell?_of_block (a := ⟨pw1, 3, none⟩) (hg1.block pw1 hpw1 (fun e => by have := HUr15.out _ e.symm; have := Epw1.out; have := Sw1.out; have := HZw1.out; have := HZw2.out; have := HZw3.out; have := HZw7.out; have := HZw9.out; have := Epw13.out; have := Sw13.out; have := HZw13.out; have := HZw14.out; have := HZw16.out; have := HZwc.out; have := HZw18.out; have := HZw19.out; omega))).trans xpw1_3
    replace hpw1 := Nat.lt_of_lt_of_le hpw1 hs
    replace xpw13_0 := (World.cell?_of_block (a := ⟨pw13, 0, none⟩) (hg1.block pw13 hpw13 (fun e => by have := HUr15.out _ e.symm; have := Epw1.out; have := Sw1.out; have := HZw1.out; have := HZw2.out; have := HZw3.out; have := HZw7.out; have := HZw9.out; have := Epw13.out; have := Sw13.out; have := HZw13.out; have := HZw14.out; have := HZw16.out; have := HZwc.out; have := HZw18.out; have := HZw19.out; omega))).trans xpw13_0
    replace xpw13_1 := (World.cell?_of_block (a := ⟨pw13, 1, none⟩) (hg1.block pw13 hpw13 (fun e => by have := HUr15.out _ e.symm; have := Epw1.out; have := Sw1.out; have := HZw1.out; have := HZw2.out; have := HZw3.out; have := HZw7.out; have := HZw9.out; have := Epw13.out; have := Sw13.out; have := HZw13.out; have := HZw14.out; have := HZw16.out; have := HZwc.out; have := HZw18.out; have := HZw19.out; omega))).trans xpw13_1
    replace xpw13_2 := (World.cell?_of_block (a := ⟨pw13, 2, none⟩) (hg1.block pw13 hpw13 (fun e => by have := HUr15.out _ e.symm; have := Epw1.out; have := Sw1.out; have := HZw1.out; have := HZw2.out; have := HZw3.out; have := HZw7.out; have := HZw9.out; have := Epw13.out; have := Sw13.out; have := HZw13.out; have := HZw14.out; have := HZw16.out; have := HZwc.out; have := HZw18.out; have := HZw19.out; omega))).trans xpw13_2
    replace xpw13_3 := (World.cell?_of_block (a := ⟨pw13, 3, none⟩) (hg1.block pw13 hpw13 (fun e => by have := HUr15.out _ e.symm; have := Epw1.out; have := Sw1.out; have := HZw1.out; have := HZw2.out; have := HZw3.out; have := HZw7.out; have := HZw9.out; have := Epw13.out; have := Sw13.out; have := HZw13.out; have := HZw14.out; have := HZw16.out; have := HZwc.out; have := HZw18.out; have := HZw19.out; omega))).trans xpw13_3
    replace hpw13 := Nat.lt_of_lt_of_le hpw13 hs
    replace HOr5 := Lib.hid (HOr5.out.marked hg1 (fun g a c => by have h3 := HUr15.out g a; have h4 := HUr5.out g c; have := Epw1.out; have := Sw1.out; have := HZw1.out; have := HZw2.out; have := HZw3.out; have := HZw7.out; have := HZw9.out; have := Epw13.out; have := Sw13.out; have := HZw13.out; have := HZw14.out; have := HZw16.out; have := HZwc.out; have := HZw18.out; have := HZw19.out; omega))
    replace HOr6 := Lib.hid (HOr6.out.marked hg1 (fun g a c => by have h3 := HUr15.out g a; have h4 := HUr6.out g c; have := Epw1.out; have := Sw1.out; have := HZw1.out; have := HZw2.out; have := HZw3.out; have := HZw7.out; have := HZw9.out; have := Epw13.out; have := Sw13.out; have := HZw13.out; have := HZw14.out; have := HZw16.out; have := HZwc.out; have := HZw18.out; have := HZw19.out; omega))
    replace HOr8 := Lib.hid (HOr8.out.marked hg1 (fun g a c => by have h3 := HUr15.out g a; have h4 := HUr8.out g c; have := Epw1.out; have := Sw1.out; have := HZw1.out; have := HZw2.out; have := HZw3.out; have := HZw7.out; have := HZw9.out; have := Epw13.out; have := Sw13.out; have := HZw13.out; have := HZw14.out; have := HZw16.out; have := HZwc.out; have := HZw18.out; have := HZw19.out; omega))
    replace HOr11 := Lib.hid (HOr11.out.marked hg1 (fun g a c => by have h3 := HUr15.out g a; have h4 := HUr11.out g c; have := Epw1.out; have := Sw1.out; have := HZw1.out; have := HZw2.out; have := HZw3.out; have := HZw7.out; have := HZw9.out; have := Epw13.out; have := Sw13.out; have := HZw13.out; have := HZw14.out; have := HZw16.out; have := HZwc.out; have := HZw18.out; have := HZw19.out; omega))
    replace HOr12 := Lib.hid (HOr12.out.marked hg1 (fun g a c => by have h3 := HUr15.out g a; have h4 := HUr12.out g c; have := Epw1.out; have := Sw1.out; have := HZw1.out; have := HZw2.out; have := HZw3.out; have := HZw7.out; have := HZw9.out; have := Epw13.out; have := Sw13.out; have := HZw13.out; have := HZw14.out; have := HZw16.out; have := HZwc.out; have := HZw18.out; have := HZw19.out; omega))
    replace HA0 := Lib.hid (HA0.out.below hb (HA0'.out))
    replace HM0 := Lib.hid (HM0.out.below hb (HM0'.out))
    replace HB := Lib.hid (HB.out.trans hb)
    replace hz := Nat.le_trans hz hs
    have HZw20 := Lib.hid hs
    replace HOr15 := Lib.hid ho
    clear hb hs hg1 ho
    go_wp2_with fail
    refine (kit.heldIntS _ 1 (T1.length) (.slice yr15 T1.length qr15) w20 (by omega) (by omega) (by omega) HOr15.out).mono ?_
    rintro e w21 ⟨rfl, rfl⟩
    go_wp2_with fail
    refine (kit.toConfig x0 y0 a0 c0 L0 b0 d0 M0 w20 (by omega) (by omega) HA0.out HM0.out).mono ?_
    rintro e w22 ⟨u23I, u23S, rfl, hoI, hoS, hb, hap⟩
    obtain ⟨yr24, qr24, rfl⟩ := hoI.shape
    obtain ⟨yr25, qr25, rfl⟩ := hoS.shape
    have HPr24 := Lib.hid hap
    clear hap
    replace xpw1_0 := (hb.cell (p := ⟨pw1, 0, none⟩) hpw1).trans xpw1_0
    replace xpw1_1 := (hb.cell (p := ⟨pw1, 1, none⟩) hpw1).trans xpw1_1
    replace xpw1_2 := (hb.cell (p := ⟨pw1, 2, none⟩) hpw1).trans xpw1_2
    replace xpw1_3 := (hb.cell (p := ⟨pw1, 3, none⟩) hpw1).trans xpw1_3
    replace hpw1 := Nat.lt_of_lt_of_le hpw1 hb.size
    replace xpw13_0 := (hb.cell (p := ⟨pw13, 0, none⟩) hpw13).trans xpw13_0
    replace xpw13_1 := (hb.cell (p := ⟨pw13, 1, none⟩) hpw13).trans xpw13_1
    replace xpw13_2 := (hb.cell (p := ⟨pw13, 2, none⟩) hpw13).trans xpw13_2
    replace xpw13_3 := (hb.cell (p := ⟨pw13, 3, none⟩) hpw13).trans xpw13_3
    replace hpw13 := Nat.lt_of_lt_of_le hpw13 hb.size
    replace HB := Lib.hid (HB.out.trans (hb.mono hz))
    replace hz := Nat.le_trans hz hb.size
    have HZw22 := Lib.hid hb.size
    replace HOr5 := Lib.hid (HOr5.out.later hb)
    replace HOr6 := Lib.hid (HOr6.out.later hb)
    replace HOr8 := Lib.hid (HOr8.out.later hb)
    replace HOr11 := Lib.hid (HOr11.out.later hb)
    replace HOr12 := Lib.hid (HOr12.out.later hb)
    replace HOr15 := Lib.hid (HOr15.out.later hb)
    replace HA0 := Lib.hid (HA0.out.later hb)
    replace HM0 := Lib.hid (HM0.out.later hb)
    have HOr24 := Lib.hid hoI
    have HUr24 := Lib.hid hoI.block
    clear hoI
    have HOr25 := Lib.hid hoS
    have HUr25 := Lib.hid hoS.block
    clear hoS
    clear hb
    go_wp2_with fail
    refine (kit.implMembersOf x0 y0 _ _ (.slice yr24 L0.length qr24) (.slice yr25 M0.length qr25) L0 M0 w22 (by omega) (by omega) HOr24.out HOr25.out).mono ?_
    rintro e w26 ⟨uI, he, hoI, hb⟩
    rw [HT1.out] at hoI
    obtain ⟨yr27, qr27, rfl⟩ := hoI.shape
    subst he
    replace xpw1_0 := (hb.cell (p := ⟨pw1, 0, none⟩) hpw1).trans xpw1_0
    replace xpw1_1 := (hb.cell (p := ⟨pw1, 1, none⟩) hpw1).trans xpw1_1
    replace xpw1_2 := (hb.cell (p := ⟨pw1, 2, none⟩) hpw1).trans xpw1_2
    replace xpw1_3 := (hb.cell (p := ⟨pw1, 3, none⟩) hpw1).trans xpw1_3
    replace hpw1 := Nat.lt_of_lt_of_le hpw1 hb.size
    replace xpw13_0 := (hb.cell (p := ⟨pw13, 0, none⟩) hpw13).trans xpw13_0
    replace xpw13_1 := (hb.cell (p := ⟨pw13, 1, none⟩) hpw13).trans xpw13_1
    replace xpw13_2 := (hb.cell (p := ⟨pw13, 2, none⟩) hpw13).trans xpw13_2
    replace xpw13_3 := (hb.cell (p := ⟨pw13, 3, none⟩) hpw13).trans xpw13_3
    replace hpw13 := Nat.lt_of_lt_of_le hpw13 hb.size
    replace HB := Lib.hid (HB.out.trans (hb.mono hz))
    replace hz := Nat.le_trans hz hb.size
    have HZw26 := Lib.hid hb.size
    replace HOr5 := Lib.hid (HOr5.out.later hb)
    replace HOr6 := Lib.hid (HOr6.out.later hb)
    replace HOr8 := Lib.hid (HOr8.out.later hb)
    replace HOr11 := Lib.hid (HOr11.out.later hb)
    replace HOr12 := Lib.hid (HOr12.out.later hb)
    replace HOr15 := Lib.hid (HOr15.out.later hb)
    replace HOr24 := Lib.hid (HOr24.out.later hb)
    replace HOr25 := Lib.hid (HOr25.out.later hb)
    replace HA0 := Lib.hid (HA0.out.later hb)
    replace HM0 := Lib.hid (HM0.out.later hb)
    have HOr27 := Lib.hid hoI
    have HUr27 := Lib.hid hoI.block
    clear hoI
    clear hb
    go_wp2_with fail
    refine (kit.eqIntSO _ _ (.slice yr27 T1.length qr27) (.slice yr8 T1.length qr8) T1 T1 w26 (by omega) (by omega) HOr27.out HOr8.out).mono ?_
    rintro e w28 ⟨he, hb⟩
    rw [decide_eq_true rfl] at he
    subst he
    replace xpw1_0 := (hb.cell (p := ⟨pw1, 0, none⟩) hpw1).trans xpw1_0
    replace xpw1_1 := (hb.cell (p := ⟨pw1, 1, none⟩) hpw1).trans xpw1_1
    replace xpw1_2 := (hb.cell (p := ⟨pw1, 2, none⟩) hpw1).trans xpw1_2
    replace xpw1_3 := (hb.cell (p := ⟨pw1, 3, none⟩) hpw1).trans xpw1_3
    replace hpw1 := Nat.lt_of_lt_of_le hpw1 hb.size
    replace xpw13_0 := (hb.cell (p := ⟨pw13, 0, none⟩) hpw13).trans xpw13_0
    replace xpw13_1 := (hb.cell (p := ⟨pw13, 1, none⟩) hpw13).trans xpw13_1
    replace xpw13_2 := (hb.cell (p := ⟨pw13, 2, none⟩) hpw13).trans xpw13_2
    replace xpw13_3 := (hb.cell (p := ⟨pw13, 3, none⟩) hpw13).trans xpw13_3
    replace hpw13 := Nat.lt_of_lt_of_le hpw13 hb.size
    replace HB := Lib.hid (HB.out.trans (hb.mono hz))
    replace hz := Nat.le_trans hz hb.size
    have HZw28 := Lib.hid hb.size
    replace HOr5 := Lib.hid (HOr5.out.later hb)
    replace HOr6 := Lib.hid (HOr6.out.later hb)
    replace HOr8 := Lib.hid (HOr8.out.later hb)
    replace HOr11 := Lib.hid (HOr11.out.later hb)
    replace HOr12 := Lib.hid (HOr12.out.later hb)
    replace HOr15 := Lib.hid (HOr15.out.later hb)
    replace HOr24 := Lib.hid (HOr24.out.later hb)
    replace HOr25 := Lib.hid (HOr25.out.later hb)
    replace HOr27 := Lib.hid (HOr27.out.later hb)
    replace HA0 := Lib.hid (HA0.out.later hb)
    replace HM0 := Lib.hid (HM0.out.later hb)
    clear hb
    go_wp2_with fail
    refine (kit.heldIntS _ 1 (T1.length) (.slice yr15 T1.length qr15) w28 (by omega) (by omega) (by omega) HOr15.out).mono ?_
    rintro e w29 ⟨rfl, rfl⟩
    go_wp2_with fail
    go_ret
    exact ⟨rfl, HB.out⟩
set_option maxRecDepth 100000 in
theorem lifted (os : Os) (started : os.Started) (H : Type) (enc : TypeId × Value → H) :
    ReturnsInHanded {} Try.checked os 9 .any (Rows.fnExactMembersOfSpec.pre6 enc Try.prog Try.f9 Rows.fnExactMembersOfRow.domain false) (Rows.fnExactMembersOfSpec.post enc Try.prog Try.f9 false true false false) := by
  refine returnsInHanded_of_change (C := Try.checked) kit.own started (by kernel_rfl) Try.func9
    (ChangeSpec.witness6 (enc := enc) (C := Try.checked) false ⟨#[], #[.agg #[.int .i64 0, .int .i64 0, .slice none 0 0, .slice none 0 0]], []⟩ 8 (by kernel_rfl) (by kernel_rfl) (by kernel_rfl) (by kernel_rfl)) ?_
  intro W base args ds gs before hval0 hW hcnd _
  have hval : ∀ (j : Nat) t v, Try.f9.params[j]? = some t → args[j]? = some v → Value.okWide Try.prog W .any base t v := hval0
  have hW' := hW
  obtain ⟨p, q, hA0, hV, rfl, hfz, hnd⟩ := hW
  have hA : DataW.TrodAll enc Try.prog W 0 (fun _ => true) true Try.f9.params.toList args.toList ds p := hA0
  rw [Try.params9] at hA hval
  obtain ⟨v0, vs0, d0, ds0, p0, q0, hargs, rfl, rfl, h0, r0⟩ := trodAll_cons hA
  obtain ⟨rfl, rfl, rfl⟩ := trodAll_nil r0
  obtain rfl : args = #[v0] := by cases args; simp_all
  obtain ⟨rfl, rfl⟩ := trodVars_none hV
  have k0 := h0
  have lt0 : ∀ x ∈ p0, x.block < W.heap.size := by obtain ⟨m, hm⟩ := k0; exact DataW.trod_lt m _ _ _ hm
  obtain ⟨x0, y0, a0, c0, L0, b0, e0, M0, rfl, wa0, wb0, wl0, wm0⟩ := kit.open_config (hval 0 45 v0 rfl rfl) h0 lt0
  clear hA0 hval0
  refine (walk x0 y0 a0 c0 L0 b0 e0 M0 W wa0 wb0 wl0 wm0).mono fun e W' ⟨he, bel⟩ => ?_
  subst he
  exact ⟨_, rfl, _, _, _, [], _, [], hW', trodAll_mk1 (shut_bool Try.underlying4 _), (trodAll_cons_mk (Below.trod kit.laidOut (by kernel_rfl) (of_decide_eq_true (by kernel_rfl)) k0 bel lt0) trodAll_mk0), rfl, bel.frame _, fun h => by cases h⟩

theorem proved : Rows.FnExactMembersOfSaid :=
  OpenClaim.holds_of_wide 9 Try.f9 rfl rfl rfl rfl rfl rfl rfl ⟨rfl, rfl, rfl, rfl, rfl⟩ rfl rfl rfl rfl rfl (by kernel_rfl) Try.func9 (by kernel_rfl)
    (of_decide_eq_true (by kernel_rfl)) (by unfold Func.isWrapper; first | (rw [if_pos (by decide +kernel)]; kernel_rfl) | (rw [if_neg (by decide +kernel)]; exact ⟨rfl, rfl⟩))
    (fun os started H enc _ => lifted os started H enc)
end Go.Proofs.Ytmojigimlhjphaa.fnExactMembersOf
