/-
  For every []Place, two []int (the law passes over those with more than 2^20 elements) and a number, impl's PlanMembers returns the same list as the specification's, in memory of its own, and leaves its arguments as they were: the law returns true and changes nothing that was there. No other condition.
-/
import Derived.Test.YtpdpejlcilnafaaS9PlanI
import Derived.Test.YtpdpejlcilnafaaS9Plan
import Derived.Test.YtpdpejlcilnafaaPlas3
import Derived.Test.YtpdpejlcilnafaaIntRow
import Derived.Deep.RegionWith
import Derived.Deep.DeepCutAuto
namespace Go.Proofs.Ytpdpejlcilnafaa.fnExactPlanMembers
open Go.ChangeShapes Go.WideShapes Go.ChangeAt Go.RowKit
open Go.ChangeMaps (open_string shut_string)
set_option linter.unusedVariables false

set_option maxRecDepth 100000 in
set_option maxHeartbeats 16000000 in
theorem walk (a0 : Option Addr) (c0 : Nat) (L0 : List kit.Pla) (a1 : Option Addr) (c1 : Nat) (L1 : List Int) (a2 : Option Addr) (c2 : Nat) (L2 : List Int) (a3 : Int) (w : World) (wa0 : kit.AtQ w a0 L0) (wl0 : L0.length ≤ maxLen) (wa1 : kit.At w a1 L1) (wl1 : L1.length ≤ maxLen) (wa2 : kit.At w a2 L2) (wl2 : L2.length ≤ maxLen) (w3 : (Lit.int .i64 a3).wf = true) :
    Calls Try.prog 8 #[.slice a0 L0.length c0, .slice a1 L1.length c1, .slice a2 L2.length c2, .int .i64 a3] w fun e w' => e = .returned (.bool true) ∧ Below w.heap.size w w' := by
  unfold maxLen at wl0
  have HA0' := Lib.hid (kit.atQ_low wa0)
  have HA0 := Lib.hid wa0
  clear wa0
  unfold maxLen at wl1
  have HA1' := Lib.hid (kit.at_low wa1)
  have HA1 := Lib.hid wa1
  clear wa1
  unfold maxLen at wl2
  have HA2' := Lib.hid (kit.at_low wa2)
  have HA2 := Lib.hid wa2
  clear wa2
  have HB := Lib.hid (Below.refl w.heap.size w)
  have hz : w.heap.size ≤ w.heap.size := Nat.le_refl _
  by_cases hbiga1 : L1.length > 1048576
  · go_enter Try.func8, Try.ntmps8
    go_wp2_with fail
    go_ret
    exact ⟨rfl, Below.refl _ _⟩
  by_cases hbiga2 : L2.length > 1048576
  · go_enter Try.func8, Try.ntmps8
    go_wp2_with fail
    go_ret
    exact ⟨rfl, Below.refl _ _⟩
  go_enter Try.func8, Try.ntmps8
  go_wp2_with fail
  refine (kit.szPlaceS a0 L0.length c0 (1048576) w (by omega) (by omega) (by omega)).mono ?_
  rintro e w1 ⟨rfl, hw⟩
  subst hw
  by_cases hs1 : ¬ (L0.length : Int) ≤ 1048576
  · rw [if_neg hs1]
    go_wp2_with fail
    go_ret
    exact ⟨rfl, HB.out⟩
  replace hs1 := Decidable.not_not.1 hs1
  rw [if_pos hs1]
  go_wp2_with fail
  refine (kit.toPlaceS a0 c0 L0 w (by omega) HA0.out).mono ?_
  rintro e w2 ⟨u3, rfl, ho, hb⟩
  obtain ⟨yr4, qr4, rfl⟩ := ho.shape
  replace HB := Lib.hid (HB.out.trans (hb.mono hz))
  replace hz := Nat.le_trans hz hb.size
  have HZw2 := Lib.hid hb.size
  replace HA0 := Lib.hid (HA0.out.later hb)
  replace HA1 := Lib.hid (HA1.out.later hb)
  replace HA2 := Lib.hid (HA2.out.later hb)
  have HOr4 := Lib.hid ho
  have HUr4 := Lib.hid ho.block
  clear ho
  clear hb
  go_wp2_with fail
  refine (kit.toIntS_any a1 c1 L1 w2 (by omega) HA1.out).mono ?_
  rintro e w5 ⟨u6, rfl, ho, hb⟩
  obtain ⟨yr7, qr7, rfl⟩ := ho.shape
  replace HB := Lib.hid (HB.out.trans (hb.mono hz))
  replace hz := Nat.le_trans hz hb.size
  have HZw5 := Lib.hid hb.size
  replace HOr4 := Lib.hid (HOr4.out.later hb)
  replace HA0 := Lib.hid (HA0.out.later hb)
  replace HA1 := Lib.hid (HA1.out.later hb)
  replace HA2 := Lib.hid (HA2.out.later hb)
  have HOr7 := Lib.hid ho
  have HUr7 := Lib.hid ho.block
  clear ho
  clear hb
  go_wp2_with fail
  refine (kit.toIntS_any a2 c2 L2 w5 (by omega) HA2.out).mono ?_
  rintro e w8 ⟨u9, rfl, ho, hb⟩
  obtain ⟨yr10, qr10, rfl⟩ := ho.shape
  replace HB := Lib.hid (HB.out.trans (hb.mono hz))
  replace hz := Nat.le_trans hz hb.size
  have HZw8 := Lib.hid hb.size
  replace HOr4 := Lib.hid (HOr4.out.later hb)
  replace HOr7 := Lib.hid (HOr7.out.later hb)
  replace HA0 := Lib.hid (HA0.out.later hb)
  replace HA1 := Lib.hid (HA1.out.later hb)
  replace HA2 := Lib.hid (HA2.out.later hb)
  have HOr10 := Lib.hid ho
  have HUr10 := Lib.hid ho.block
  clear ho
  clear hb
  go_wp2_with fail
  refine (kit.specPlanMembers _ (.slice yr4 L0.length qr4) L0 _ (.slice yr7 L1.length qr7) L1 _ (.slice yr10 L2.length qr10) L2 a3 w8 (by omega) HOr4.out (by omega) HOr7.out (by omega) HOr10.out).mono ?_
  rintro e w11 ⟨uI, he, hoI, hb⟩
  generalize hT1 : kit.planP L0 L1 L2 a3 = T1 at hoI
  have lT1 : T1.length ≤ 4194304 := by rw [← hT1]; exact Nat.le_trans (kit.planP_len _ _ _ _) (by omega)
  have HT1 := Lib.hid hT1
  clear hT1
  obtain ⟨yr12, qr12, rfl⟩ := hoI.shape
  subst he
  replace HB := Lib.hid (HB.out.trans (hb.mono hz))
  replace hz := Nat.le_trans hz hb.size
  have HZw11 := Lib.hid hb.size
  replace HOr4 := Lib.hid (HOr4.out.later hb)
  replace HOr7 := Lib.hid (HOr7.out.later hb)
  replace HOr10 := Lib.hid (HOr10.out.later hb)
  replace HA0 := Lib.hid (HA0.out.later hb)
  replace HA1 := Lib.hid (HA1.out.later hb)
  replace HA2 := Lib.hid (HA2.out.later hb)
  have HOr12 := Lib.hid hoI
  have HUr12 := Lib.hid hoI.block
  clear hoI
  clear hb
  go_wp2_with fail
  refine (kit.toPlaceS a0 c0 L0 w11 (by omega) HA0.out).mono ?_
  rintro e w13 ⟨u14, rfl, ho, hb⟩
  obtain ⟨yr15, qr15, rfl⟩ := ho.shape
  replace HB := Lib.hid (HB.out.trans (hb.mono hz))
  replace hz := Nat.le_trans hz hb.size
  have HZw13 := Lib.hid hb.size
  replace HOr4 := Lib.hid (HOr4.out.later hb)
  replace HOr7 := Lib.hid (HOr7.out.later hb)
  replace HOr10 := Lib.hid (HOr10.out.later hb)
  replace HOr12 := Lib.hid (HOr12.out.later hb)
  replace HA0 := Lib.hid (HA0.out.later hb)
  replace HA1 := Lib.hid (HA1.out.later hb)
  replace HA2 := Lib.hid (HA2.out.later hb)
  have HOr15 := Lib.hid ho
  have HUr15 := Lib.hid ho.block
  clear ho
  clear hb
  go_wp2_with fail
  refine (kit.toIntS_any a1 c1 L1 w13 (by omega) HA1.out).mono ?_
  rintro e w16 ⟨u17, rfl, ho, hb⟩
  obtain ⟨yr18, qr18, rfl⟩ := ho.shape
  replace HB := Lib.hid (HB.out.trans (hb.mono hz))
  replace hz := Nat.le_trans hz hb.size
  have HZw16 := Lib.hid hb.size
  replace HOr4 := Lib.hid (HOr4.out.later hb)
  replace HOr7 := Lib.hid (HOr7.out.later hb)
  replace HOr10 := Lib.hid (HOr10.out.later hb)
  replace HOr12 := Lib.hid (HOr12.out.later hb)
  replace HOr15 := Lib.hid (HOr15.out.later hb)
  replace HA0 := Lib.hid (HA0.out.later hb)
  replace HA1 := Lib.hid (HA1.out.later hb)
  replace HA2 := Lib.hid (HA2.out.later hb)
  have HOr18 := Lib.hid ho
  have HUr18 := Lib.hid ho.block
  clear ho
  clear hb
  go_wp2_with fail
  refine (kit.toIntS_any a2 c2 L2 w16 (by omega) HA2.out).mono ?_
  rintro e w19 ⟨u20, rfl, ho, hb⟩
  obtain ⟨yr21, qr21, rfl⟩ := ho.shape
  replace HB := Lib.hid (HB.out.trans (hb.mono hz))
  replace hz := Nat.le_trans hz hb.size
  have HZw19 := Lib.hid hb.size
  replace HOr4 := Lib.hid (HOr4.out.later hb)
  replace HOr7 := Lib.hid (HOr7.out.later hb)
  replace HOr10 := Lib.hid (HOr10.out.later hb)
  replace HOr12 := Lib.hid (HOr12.out.later hb)
  replace HOr15 := Lib.hid (HOr15.out.later hb)
  replace HOr18 := Lib.hid (HOr18.out.later hb)
  replace HA0 := Lib.hid (HA0.out.later hb)
  replace HA1 := Lib.hid (HA1.out.later hb)
  replace HA2 := Lib.hid (HA2.out.later hb)
  have HOr21 := Lib.hid ho
  have HUr21 := Lib.hid ho.block
  clear ho
  clear hb
  go_wp2_with fail
  refine (kit.implPlanMembers _ (.slice yr15 L0.length qr15) L0 _ (.slice yr18 L1.length qr18) L1 _ (.slice yr21 L2.length qr21) L2 a3 w19 (by omega) HOr15.out (by omega) HOr18.out (by omega) HOr21.out).mono ?_
  rintro e w22 ⟨uI, he, hoI, hb⟩
  rw [HT1.out] at hoI
  obtain ⟨yr23, qr23, rfl⟩ := hoI.shape
  subst he
  replace HB := Lib.hid (HB.out.trans (hb.mono hz))
  replace hz := Nat.le_trans hz hb.size
  have HZw22 := Lib.hid hb.size
  replace HOr4 := Lib.hid (HOr4.out.later hb)
  replace HOr7 := Lib.hid (HOr7.out.later hb)
  replace HOr10 := Lib.hid (HOr10.out.later hb)
  replace HOr12 := Lib.hid (HOr12.out.later hb)
  replace HOr15 := Lib.hid (HOr15.out.later hb)
  replace HOr18 := Lib.hid (HOr18.out.later hb)
  replace HOr21 := Lib.hid (HOr21.out.later hb)
  replace HA0 := Lib.hid (HA0.out.later hb)
  replace HA1 := Lib.hid (HA1.out.later hb)
  replace HA2 := Lib.hid (HA2.out.later hb)
  have HOr23 := Lib.hid hoI
  have HUr23 := Lib.hid hoI.block
  clear hoI
  clear hb
  go_wp2_with fail
  refine (kit.eqIntSO _ _ (.slice yr23 T1.length qr23) (.slice yr12 T1.length qr12) T1 T1 w22 (by omega) (by omega) HOr23.out HOr12.out).mono ?_
  rintro e w24 ⟨he, hb⟩
  rw [decide_eq_true rfl] at he
  subst he
  replace HB := Lib.hid (HB.out.trans (hb.mono hz))
  replace hz := Nat.le_trans hz hb.size
  have HZw24 := Lib.hid hb.size
  replace HOr4 := Lib.hid (HOr4.out.later hb)
  replace HOr7 := Lib.hid (HOr7.out.later hb)
  replace HOr10 := Lib.hid (HOr10.out.later hb)
  replace HOr12 := Lib.hid (HOr12.out.later hb)
  replace HOr15 := Lib.hid (HOr15.out.later hb)
  replace HOr18 := Lib.hid (HOr18.out.later hb)
  replace HOr21 := Lib.hid (HOr21.out.later hb)
  replace HOr23 := Lib.hid (HOr23.out.later hb)
  replace HA0 := Lib.hid (HA0.out.later hb)
  replace HA1 := Lib.hid (HA1.out.later hb)
  replace HA2 := Lib.hid (HA2.out.later hb)
  clear hb
  go_wp2_with fail
  refine (kit.toPlaceS a0 c0 L0 w24 (by omega) HA0.out).mono ?_
  rintro e w25 ⟨u26, rfl, ho, hb⟩
  obtain ⟨yr27, qr27, rfl⟩ := ho.shape
  replace HB := Lib.hid (HB.out.trans (hb.mono hz))
  replace hz := Nat.le_trans hz hb.size
  have HZw25 := Lib.hid hb.size
  replace HOr4 := Lib.hid (HOr4.out.later hb)
  replace HOr7 := Lib.hid (HOr7.out.later hb)
  replace HOr10 := Lib.hid (HOr10.out.later hb)
  replace HOr12 := Lib.hid (HOr12.out.later hb)
  replace HOr15 := Lib.hid (HOr15.out.later hb)
  replace HOr18 := Lib.hid (HOr18.out.later hb)
  replace HOr21 := Lib.hid (HOr21.out.later hb)
  replace HOr23 := Lib.hid (HOr23.out.later hb)
  replace HA0 := Lib.hid (HA0.out.later hb)
  replace HA1 := Lib.hid (HA1.out.later hb)
  replace HA2 := Lib.hid (HA2.out.later hb)
  have HOr27 := Lib.hid ho
  have HUr27 := Lib.hid ho.block
  clear ho
  clear hb
  go_wp2_with fail
  refine (kit.eqPlaceSO _ _ (.slice yr15 L0.length qr15) (.slice yr27 L0.length qr27) L0 L0 w25 (by omega) (by omega) HOr15.out HOr27.out).mono ?_
  rintro e w28 ⟨he, hb⟩
  rw [decide_eq_true rfl] at he
  subst he
  replace HB := Lib.hid (HB.out.trans (hb.mono hz))
  replace hz := Nat.le_trans hz hb.size
  have HZw28 := Lib.hid hb.size
  replace HOr4 := Lib.hid (HOr4.out.later hb)
  replace HOr7 := Lib.hid (HOr7.out.later hb)
  replace HOr10 := Lib.hid (HOr10.out.later hb)
  replace HOr12 := Lib.hid (HOr12.out.later hb)
  replace HOr15 := Lib.hid (HOr15.out.later hb)
  replace HOr18 := Lib.hid (HOr18.out.later hb)
  replace HOr21 := Lib.hid (HOr21.out.later hb)
  replace HOr23 := Lib.hid (HOr23.out.later hb)
  replace HOr27 := Lib.hid (HOr27.out.later hb)
  replace HA0 := Lib.hid (HA0.out.later hb)
  replace HA1 := Lib.hid (HA1.out.later hb)
  replace HA2 := Lib.hid (HA2.out.later hb)
  clear hb
  go_wp2_with fail
  refine (kit.toIntS_any a1 c1 L1 w28 (by omega) HA1.out).mono ?_
  rintro e w29 ⟨u30, rfl, ho, hb⟩
  obtain ⟨yr31, qr31, rfl⟩ := ho.shape
  replace HB := Lib.hid (HB.out.trans (hb.mono hz))
  replace hz := Nat.le_trans hz hb.size
  have HZw29 := Lib.hid hb.size
  replace HOr4 := Lib.hid (HOr4.out.later hb)
  replace HOr7 := Lib.hid (HOr7.out.later hb)
  replace HOr10 := Lib.hid (HOr10.out.later hb)
  replace HOr12 := Lib.hid (HOr12.out.later hb)
  replace HOr15 := Lib.hid (HOr15.out.later hb)
  replace HOr18 := Lib.hid (HOr18.out.later hb)
  replace HOr21 := Lib.hid (HOr21.out.later hb)
  replace HOr23 := Lib.hid (HOr23.out.later hb)
  replace HOr27 := Lib.hid (HOr27.out.later hb)
  replace HA0 := Lib.hid (HA0.out.later hb)
  replace HA1 := Lib.hid (HA1.out.later hb)
  replace HA2 := Lib.hid (HA2.out.later hb)
  have HOr31 := Lib.hid ho
  have HUr31 := Lib.hid ho.block
  clear ho
  clear hb
  go_wp2_with fail
  refine (kit.eqIntSO _ _ (.slice yr18 L1.length qr18) (.slice yr31 L1.length qr31) L1 L1 w29 (by omega) (by omega) HOr18.out HOr31.out).mono ?_
  rintro e w32 ⟨he, hb⟩
  rw [decide_eq_true rfl] at he
  subst he
  replace HB := Lib.hid (HB.out.trans (hb.mono hz))
  replace hz := Nat.le_trans hz hb.size
  have HZw32 := Lib.hid hb.size
  replace HOr4 := Lib.hid (HOr4.out.later hb)
  replace HOr7 := Lib.hid (HOr7.out.later hb)
  replace HOr10 := Lib.hid (HOr10.out.later hb)
  replace HOr12 := Lib.hid (HOr12.out.later hb)
  replace HOr15 := Lib.hid (HOr15.out.later hb)
  replace HOr18 := Lib.hid (HOr18.out.later hb)
  replace HOr21 := Lib.hid (HOr21.out.later hb)
  replace HOr23 := Lib.hid (HOr23.out.later hb)
  replace HOr27 := Lib.hid (HOr27.out.later hb)
  replace HOr31 := Lib.hid (HOr31.out.later hb)
  replace HA0 := Lib.hid (HA0.out.later hb)
  replace HA1 := Lib.hid (HA1.out.later hb)
  replace HA2 := Lib.hid (HA2.out.later hb)
  clear hb
  go_wp2_with fail
  refine (kit.toIntS_any a2 c2 L2 w32 (by omega) HA2.out).mono ?_
  rintro e w33 ⟨u34, rfl, ho, hb⟩
  obtain ⟨yr35, qr35, rfl⟩ := ho.shape
  replace HB := Lib.hid (HB.out.trans (hb.mono hz))
  replace hz := Nat.le_trans hz hb.size
  have HZw33 := Lib.hid hb.size
  replace HOr4 := Lib.hid (HOr4.out.later hb)
  replace HOr7 := Lib.hid (HOr7.out.later hb)
  replace HOr10 := Lib.hid (HOr10.out.later hb)
  replace HOr12 := Lib.hid (HOr12.out.later hb)
  replace HOr15 := Lib.hid (HOr15.out.later hb)
  replace HOr18 := Lib.hid (HOr18.out.later hb)
  replace HOr21 := Lib.hid (HOr21.out.later hb)
  replace HOr23 := Lib.hid (HOr23.out.later hb)
  replace HOr27 := Lib.hid (HOr27.out.later hb)
  replace HOr31 := Lib.hid (HOr31.out.later hb)
  replace HA0 := Lib.hid (HA0.out.later hb)
  replace HA1 := Lib.hid (HA1.out.later hb)
  replace HA2 := Lib.hid (HA2.out.later hb)
  have HOr35 := Lib.hid ho
  have HUr35 := Lib.hid ho.block
  clear ho
  clear hb
  go_wp2_with fail
  refine (kit.eqIntSO _ _ (.slice yr21 L2.length qr21) (.slice yr35 L2.length qr35) L2 L2 w33 (by omega) (by omega) HOr21.out HOr35.out).mono ?_
  rintro e w36 ⟨he, hb⟩
  rw [decide_eq_true rfl] at he
  subst he
  replace HB := Lib.hid (HB.out.trans (hb.mono hz))
  replace hz := Nat.le_trans hz hb.size
  have HZw36 := Lib.hid hb.size
  replace HOr4 := Lib.hid (HOr4.out.later hb)
  replace HOr7 := Lib.hid (HOr7.out.later hb)
  replace HOr10 := Lib.hid (HOr10.out.later hb)
  replace HOr12 := Lib.hid (HOr12.out.later hb)
  replace HOr15 := Lib.hid (HOr15.out.later hb)
  replace HOr18 := Lib.hid (HOr18.out.later hb)
  replace HOr21 := Lib.hid (HOr21.out.later hb)
  replace HOr23 := Lib.hid (HOr23.out.later hb)
  replace HOr27 := Lib.hid (HOr27.out.later hb)
  replace HOr31 := Lib.hid (HOr31.out.later hb)
  replace HOr35 := Lib.hid (HOr35.out.later hb)
  replace HA0 := Lib.hid (HA0.out.later hb)
  replace HA1 := Lib.hid (HA1.out.later hb)
  replace HA2 := Lib.hid (HA2.out.later hb)
  clear hb
  go_wp2_with fail
  refine (kit.markPlaceS _ (1) (.slice yr15 L0.length qr15) L0 w36 (by omega) (by omega) (by omega) HOr15.out).mono ?_
  rintro e w37 ⟨rfl, ho, hg1⟩
  have hb : Below w.heap.size w36 w37 := (Below.refl w.heap.size w36).grown hg1 hz (fun g h => by have := HUr15.out g h; have := HZw2.out; have := HZw5.out; have := HZw8.out; have := HZw11.out; have := HZw13.out; have := HZw16.out; have := HZw19.out; have := HZw22.out; have := HZw24.out; have := HZw25.out; have := HZw28.out; have := HZw29.out; have := HZw32.out; have := HZw33.out; have := HZw36.out; omega)
  have hs : w36.heap.size ≤ w37.heap.size := hb.size
  replace HOr4 := Lib.hid (HOr4.out.marked hg1 (fun g a c => by have h3 := HUr15.out g a; have h4 := HUr4.out g c; have := HZw2.out; have := HZw5.out; have := HZw8.out; have := HZw11.out; have := HZw13.out; have := HZw16.out; have := HZw19.out; have := HZw22.out; have := HZw24.out; have := HZw25.out; have := HZw28.out; have := HZw29.out; have := HZw32.out; have := HZw33.out; have := HZw36.out; omega))
  replace HOr7 := Lib.hid (HOr7.out.marked hg1 (fun g a c => by have h3 := HUr15.out g a; have h4 := HUr7.out g c; have := HZw2.out; have := HZw5.out; have := HZw8.out; have := HZw11.out; have := HZw13.out; have := HZw16.out; have := HZw19.out; have := HZw22.out; have := HZw24.out; have := HZw25.out; have := HZw28.out; have := HZw29.out; have := HZw32.out; have := HZw33.out; have := HZw36.out; omega))
  replace HOr10 := Lib.hid (HOr10.out.marked hg1 (fun g a c => by have h3 := HUr15.out g a; have h4 := HUr10.out g c; have := HZw2.out; have := HZw5.out; have := HZw8.out; have := HZw11.out; have := HZw13.out; have := HZw16.out; have := HZw19.out; have := HZw22.out; have := HZw24.out; have := HZw25.out; have := HZw28.out; have := HZw29.out; have := HZw32.out; have := HZw33.out; have := HZw36.out; omega))
  replace HOr12 := Lib.hid (HOr12.out.marked hg1 (fun g a c => by have h3 := HUr15.out g a; have h4 := HUr12.out g c; have := HZw2.out; have := HZw5.out; have := HZw8.out; have := HZw11.out; have := HZw13.out; have := HZw16.out; have := HZw19.out; have := HZw22.out; have := HZw24.out; have := HZw25.out; have := HZw28.out; have := HZw29.out; have := HZw32.out; have := HZw33.out; have := HZw36.out; omega))
  replace HOr18 := Lib.hid (HOr18.out.marked hg1 (fun g a c => by have h3 := HUr15.out g a; have h4 := HUr18.out g c; have := HZw2.out; have := HZw5.out; have := HZw8.out; have := HZw11.out; have := HZw13.out; have := HZw16.out; have := HZw19.out; have := HZw22.out; have := HZw24.out; have := HZw25.out; have := HZw28.out; have := HZw29.out; have := HZw32.out; have := HZw33.out; have := HZw36.out; omega))
  replace HOr21 := Lib.hid (HOr21.out.marked hg1 (fun g a c => by have h3 := HUr15.out g a; have h4 := HUr21.out g c; have := HZw2.out; have := HZw5.out; have := HZw8.out; have := HZw11.out; have := HZw13.out; have := HZw16.out; have := HZw19.out; have := HZw22.out; have := HZw24.out; have := HZw25.out; have := HZw28.out; have := HZw29.out; have := HZw32.out; have := HZw33.out; have := HZw36.out; omega))
  replace HOr23 := Lib.hid (HOr23.out.marked hg1 (fun g a c => by have h3 := HUr15.out g a; have h4 := HUr23.out g c; have := HZw2.out; have := HZw5.out; have := HZw8.out; have := HZw11.out; have := HZw13.out; have := HZw16.out; have := HZw19.out; have := HZw22.out; have := HZw24.out; have := HZw25.out; have := HZw28.out; have := HZw29.out; have := HZw32.out; have := HZw33.out; have := HZw36.out; omega))
  replace HOr27 := Lib.hid (HOr27.out.marked hg1 (fun g a c => by have h3 := HUr15.out g a; have h4 := HUr27.out g c; have := HZw2.out; have := HZw5.out; have := HZw8.out; have := HZw11.out; have := HZw13.out; have := HZw16.out; have := HZw19.out; have := HZw22.out; have := HZw24.out; have := HZw25.out; have := HZw28.out; have := HZw29.out; have := HZw32.out; have := HZw33.out; have := HZw36.out; omega))
  replace HOr31 := Lib.hid (HOr31.out.marked hg1 (fun g a c => by have h3 := HUr15.out g a; have h4 := HUr31.out g c; have := HZw2.out; have := HZw5.out; have := HZw8.out; have := HZw11.out; have := HZw13.out; have := HZw16.out; have := HZw19.out; have := HZw22.out; have := HZw24.out; have := HZw25.out; have := HZw28.out; have := HZw29.out; have := HZw32.out; have := HZw33.out; have := HZw36.out; omega))
  replace HOr35 := Lib.hid (HOr35.out.marked hg1 (fun g a c => by have h3 := HUr15.out g a; have h4 := HUr35.out g c; have := HZw2.out; have := HZw5.out; have := HZw8.out; have := HZw11.out; have := HZw13.out; have := HZw16.out; have := HZw19.out; have := HZw22.out; have := HZw24.out; have := HZw25.out; have := HZw28.out; have := HZw29.out; have := HZw32.out; have := HZw33.out; have := HZw36.out; omega))
  replace HA0 := Lib.hid (HA0.out.below hb (HA0'.out))
  replace HA1 := Lib.hid (HA1.out.below hb (HA1'.out))
  replace HA2 := Lib.hid (HA2.out.below hb (HA2'.out))
  replace HB := Lib.hid (HB.out.trans hb)
  replace hz := Nat.le_trans hz hs
  have HZw37 := Lib.hid hs
  replace HOr15 := Lib.hid ho
  clear hb hs hg1 ho
  go_wp2_with fail
  refine (kit.markIntS _ (1 + 3 * (L0.length : Int)) (.slice yr18 L1.length qr18) L1 w37 (by omega) (by omega) (by omega) HOr18.out).mono ?_
  rintro e w38 ⟨rfl, ho, hg1⟩
  have hb : Below w.heap.size w37 w38 := (Below.refl w.heap.size w37).grown hg1 hz (fun g h => by have := HUr18.out g h; have := HZw2.out; have := HZw5.out; have := HZw8.out; have := HZw11.out; have := HZw13.out; have := HZw16.out; have := HZw19.out; have := HZw22.out; have := HZw24.out; have := HZw25.out; have := HZw28.out; have := HZw29.out; have := HZw32.out; have := HZw33.out; have := HZw36.out; have := HZw37.out; omega)
  have hs : w37.heap.size ≤ w38.heap.size := hb.size
  replace HOr4 := Lib.hid (HOr4.out.marked hg1 (fun g a c => by have h3 := HUr18.out g a; have h4 := HUr4.out g c; have := HZw2.out; have := HZw5.out; have := HZw8.out; have := HZw11.out; have := HZw13.out; have := HZw16.out; have := HZw19.out; have := HZw22.out; have := HZw24.out; have := HZw25.out; have := HZw28.out; have := HZw29.out; have := HZw32.out; have := HZw33.out; have := HZw36.out; have := HZw37.out; omega))
  replace HOr7 := Lib.hid (HOr7.out.marked hg1 (fun g a c => by have h3 := HUr18.out g a; have h4 := HUr7.out g c; have := HZw2.out; have := HZw5.out; have := HZw8.out; have := HZw11.out; have := HZw13.out; have := HZw16.out; have := HZw19.out; have := HZw22.out; have := HZw24.out; have := HZw25.out; have := HZw28.out; have := HZw29.out; have := HZw32.out; have := HZw33.out; have := HZw36.out; have := HZw37.out; omega))
  replace HOr10 := Lib.hid (HOr10.out.marked hg1 (fun g a c => by have h3 := HUr18.out g a; have h4 := HUr10.out g c; have := HZw2.out; have := HZw5.out; have := HZw8.out; have := HZw11.out; have := HZw13.out; have := HZw16.out; have := HZw19.out; have := HZw22.out; have := HZw24.out; have := HZw25.out; have := HZw28.out; have := HZw29.out; have := HZw32.out; have := HZw33.out; have := HZw36.out; have := HZw37.out; omega))
  replace HOr12 := Lib.hid (HOr12.out.marked hg1 (fun g a c => by have h3 := HUr18.out g a; have h4 := HUr12.out g c; have := HZw2.out; have := HZw5.out; have := HZw8.out; have := HZw11.out; have := HZw13.out; have := HZw16.out; have := HZw19.out; have := HZw22.out; have := HZw24.out; have := HZw25.out; have := HZw28.out; have := HZw29.out; have := HZw32.out; have := HZw33.out; have := HZw36.out; have := HZw37.out; omega))
  replace HOr15 := Lib.hid (HOr15.out.marked hg1 (fun g a c => by have h3 := HUr18.out g a; have h4 := HUr15.out g c; have := HZw2.out; have := HZw5.out; have := HZw8.out; have := HZw11.out; have := HZw13.out; have := HZw16.out; have := HZw19.out; have := HZw22.out; have := HZw24.out; have := HZw25.out; have := HZw28.out; have := HZw29.out; have := HZw32.out; have := HZw33.out; have := HZw36.out; have := HZw37.out; omega))
  replace HOr21 := Lib.hid (HOr21.out.marked hg1 (fun g a c => by have h3 := HUr18.out g a; have h4 := HUr21.out g c; have := HZw2.out; have := HZw5.out; have := HZw8.out; have := HZw11.out; have := HZw13.out; have := HZw16.out; have := HZw19.out; have := HZw22.out; have := HZw24.out; have := HZw25.out; have := HZw28.out; have := HZw29.out; have := HZw32.out; have := HZw33.out; have := HZw36.out; have := HZw37.out; omega))
  replace HOr23 := Lib.hid (HOr23.out.marked hg1 (fun g a c => by have h3 := HUr18.out g a; have h4 := HUr23.out g c; have := HZw2.out; have := HZw5.out; have := HZw8.out; have := HZw11.out; have := HZw13.out; have := HZw16.out; have := HZw19.out; have := HZw22.out; have := HZw24.out; have := HZw25.out; have := HZw28.out; have := HZw29.out; have := HZw32.out; have := HZw33.out; have := HZw36.out; have := HZw37.out; omega))
  replace HOr27 := Lib.hid (HOr27.out.marked hg1 (fun g a c => by have h3 := HUr18.out g a; have h4 := HUr27.out g c; have := HZw2.out; have := HZw5.out; have := HZw8.out; have := HZw11.out; have := HZw13.out; have := HZw16.out; have := HZw19.out; have := HZw22.out; have := HZw24.out; have := HZw25.out; have := HZw28.out; have := HZw29.out; have := HZw32.out; have := HZw33.out; have := HZw36.out; have := HZw37.out; omega))
  replace HOr31 := Lib.hid (HOr31.out.marked hg1 (fun g a c => by have h3 := HUr18.out g a; have h4 := HUr31.out g c; have := HZw2.out; have := HZw5.out; have := HZw8.out; have := HZw11.out; have := HZw13.out; have := HZw16.out; have := HZw19.out; have := HZw22.out; have := HZw24.out; have := HZw25.out; have := HZw28.out; have := HZw29.out; have := HZw32.out; have := HZw33.out; have := HZw36.out; have := HZw37.out; omega))
  replace HOr35 := Lib.hid (HOr35.out.marked hg1 (fun g a c => by have h3 := HUr18.out g a; have h4 := HUr35.out g c; have := HZw2.out; have := HZw5.out; have := HZw8.out; have := HZw11.out; have := HZw13.out; have := HZw16.out; have := HZw19.out; have := HZw22.out; have := HZw24.out; have := HZw25.out; have := HZw28.out; have := HZw29.out; have := HZw32.out; have := HZw33.out; have := HZw36.out; have := HZw37.out; omega))
  replace HA0 := Lib.hid (HA0.out.below hb (HA0'.out))
  replace HA1 := Lib.hid (HA1.out.below hb (HA1'.out))
  replace HA2 := Lib.hid (HA2.out.below hb (HA2'.out))
  replace HB := Lib.hid (HB.out.trans hb)
  replace hz := Nat.le_trans hz hs
  have HZw38 := Lib.hid hs
  replace HOr18 := Lib.hid ho
  clear hb hs hg1 ho
  go_wp2_with fail
  refine (kit.markIntS _ (1 + 3 * (L0.length : Int) + (L1.length : Int)) (.slice yr21 L2.length qr21) L2 w38 (by omega) (by omega) (by omega) HOr21.out).mono ?_
  rintro e w39 ⟨rfl, ho, hg1⟩
  have hb : Below w.heap.size w38 w39 := (Below.refl w.heap.size w38).grown hg1 hz (fun g h => by have := HUr21.out g h; have := HZw2.out; have := HZw5.out; have := HZw8.out; have := HZw11.out; have := HZw13.out; have := HZw16.out; have := HZw19.out; have := HZw22.out; have := HZw24.out; have := HZw25.out; have := HZw28.out; have := HZw29.out; have := HZw32.out; have := HZw33.out; have := HZw36.out; have := HZw37.out; have := HZw38.out; omega)
  have hs : w38.heap.size ≤ w39.heap.size := hb.size
  replace HOr4 := Lib.hid (HOr4.out.marked hg1 (fun g a c => by have h3 := HUr21.out g a; have h4 := HUr4.out g c; have := HZw2.out; have := HZw5.out; have := HZw8.out; have := HZw11.out; have := HZw13.out; have := HZw16.out; have := HZw19.out; have := HZw22.out; have := HZw24.out; have := HZw25.out; have := HZw28.out; have := HZw29.out; have := HZw32.out; have := HZw33.out; have := HZw36.out; have := HZw37.out; have := HZw38.out; omega))
  replace HOr7 := Lib.hid (HOr7.out.marked hg1 (fun g a c => by have h3 := HUr21.out g a; have h4 := HUr7.out g c; have := HZw2.out; have := HZw5.out; have := HZw8.out; have := HZw11.out; have := HZw13.out; have := HZw16.out; have := HZw19.out; have := HZw22.out; have := HZw24.out; have := HZw25.out; have := HZw28.out; have := HZw29.out; have := HZw32.out; have := HZw33.out; have := HZw36.out; have := HZw37.out; have := HZw38.out; omega))
  replace HOr10 := Lib.hid (HOr10.out.marked hg1 (fun g a c => by have h3 := HUr21.out g a; have h4 := HUr10.out g c; have := HZw2.out; have := HZw5.out; have := HZw8.out; have := HZw11.out; have := HZw13.out; have := HZw16.out; have := HZw19.out; have := HZw22.out; have := HZw24.out; have := HZw25.out; have := HZw28.out; have := HZw29.out; have := HZw32.out; have := HZw33.out; have := HZw36.out; have := HZw37.out; have := HZw38.out; omega))
  replace HOr12 := Lib.hid (HOr12.out.marked hg1 (fun g a c => by have h3 := HUr21.out g a; have h4 := HUr12.out g c; have := HZw2.out; have := HZw5.out; have := HZw8.out; have := HZw11.out; have := HZw13.out; have := HZw16.out; have := HZw19.out; have := HZw22.out; have := HZw24.out; have := HZw25.out; have := HZw28.out; have := HZw29.out; have := HZw32.out; have := HZw33.out; have := HZw36.out; have := HZw37.out; have := HZw38.out; omega))
  replace HOr15 := Lib.hid (HOr15.out.marked hg1 (fun g a c => by have h3 := HUr21.out g a; have h4 := HUr15.out g c; have := HZw2.out; have := HZw5.out; have := HZw8.out; have := HZw11.out; have := HZw13.out; have := HZw16.out; have := HZw19.out; have := HZw22.out; have := HZw24.out; have := HZw25.out; have := HZw28.out; have := HZw29.out; have := HZw32.out; have := HZw33.out; have := HZw36.out; have := HZw37.out; have := HZw38.out; omega))
  replace HOr18 := Lib.hid (HOr18.out.marked hg1 (fun g a c => by have h3 := HUr21.out g a; have h4 := HUr18.out g c; have := HZw2.out; have := HZw5.out; have := HZw8.out; have := HZw11.out; have := HZw13.out; have := HZw16.out; have := HZw19.out; have := HZw22.out; have := HZw24.out; have := HZw25.out; have := HZw28.out; have := HZw29.out; have := HZw32.out; have := HZw33.out; have := HZw36.out; have := HZw37.out; have := HZw38.out; omega))
  replace HOr23 := Lib.hid (HOr23.out.marked hg1 (fun g a c => by have h3 := HUr21.out g a; have h4 := HUr23.out g c; have := HZw2.out; have := HZw5.out; have := HZw8.out; have := HZw11.out; have := HZw13.out; have := HZw16.out; have := HZw19.out; have := HZw22.out; have := HZw24.out; have := HZw25.out; have := HZw28.out; have := HZw29.out; have := HZw32.out; have := HZw33.out; have := HZw36.out; have := HZw37.out; have := HZw38.out; omega))
  replace HOr27 := Lib.hid (HOr27.out.marked hg1 (fun g a c => by have h3 := HUr21.out g a; have h4 := HUr27.out g c; have := HZw2.out; have := HZw5.out; have := HZw8.out; have := HZw11.out; have := HZw13.out; have := HZw16.out; have := HZw19.out; have := HZw22.out; have := HZw24.out; have := HZw25.out; have := HZw28.out; have := HZw29.out; have := HZw32.out; have := HZw33.out; have := HZw36.out; have := HZw37.out; have := HZw38.out; omega))
  replace HOr31 := Lib.hid (HOr31.out.marked hg1 (fun g a c => by have h3 := HUr21.out g a; have h4 := HUr31.out g c; have := HZw2.out; have := HZw5.out; have := HZw8.out; have := HZw11.out; have := HZw13.out; have := HZw16.out; have := HZw19.out; have := HZw22.out; have := HZw24.out; have := HZw25.out; have := HZw28.out; have := HZw29.out; have := HZw32.out; have := HZw33.out; have := HZw36.out; have := HZw37.out; have := HZw38.out; omega))
  replace HOr35 := Lib.hid (HOr35.out.marked hg1 (fun g a c => by have h3 := HUr21.out g a; have h4 := HUr35.out g c; have := HZw2.out; have := HZw5.out; have := HZw8.out; have := HZw11.out; have := HZw13.out; have := HZw16.out; have := HZw19.out; have := HZw22.out; have := HZw24.out; have := HZw25.out; have := HZw28.out; have := HZw29.out; have := HZw32.out; have := HZw33.out; have := HZw36.out; have := HZw37.out; have := HZw38.out; omega))
  replace HA0 := Lib.hid (HA0.out.below hb (HA0'.out))
  replace HA1 := Lib.hid (HA1.out.below hb (HA1'.out))
  replace HA2 := Lib.hid (HA2.out.below hb (HA2'.out))
  replace HB := Lib.hid (HB.out.trans hb)
  replace hz := Nat.le_trans hz hs
  have HZw39 := Lib.hid hs
  replace HOr21 := Lib.hid ho
  clear hb hs hg1 ho
  go_wp2_with fail
  refine (kit.eqIntSO _ _ (.slice yr23 T1.length qr23) (.slice yr12 T1.length qr12) T1 T1 w39 (by omega) (by omega) HOr23.out HOr12.out).mono ?_
  rintro e w40 ⟨he, hb⟩
  rw [decide_eq_true rfl] at he
  subst he
  replace HB := Lib.hid (HB.out.trans (hb.mono hz))
  replace hz := Nat.le_trans hz hb.size
  have HZw40 := Lib.hid hb.size
  replace HOr4 := Lib.hid (HOr4.out.later hb)
  replace HOr7 := Lib.hid (HOr7.out.later hb)
  replace HOr10 := Lib.hid (HOr10.out.later hb)
  replace HOr12 := Lib.hid (HOr12.out.later hb)
  replace HOr15 := Lib.hid (HOr15.out.later hb)
  replace HOr18 := Lib.hid (HOr18.out.later hb)
  replace HOr21 := Lib.hid (HOr21.out.later hb)
  replace HOr23 := Lib.hid (HOr23.out.later hb)
  replace HOr27 := Lib.hid (HOr27.out.later hb)
  replace HOr31 := Lib.hid (HOr31.out.later hb)
  replace HOr35 := Lib.hid (HOr35.out.later hb)
  replace HA0 := Lib.hid (HA0.out.later hb)
  replace HA1 := Lib.hid (HA1.out.later hb)
  replace HA2 := Lib.hid (HA2.out.later hb)
  clear hb
  go_wp2_with fail
  refine (kit.markIntS _ (1) (.slice yr23 T1.length qr23) T1 w40 (by omega) (by omega) (by omega) HOr23.out).mono ?_
  rintro e w41 ⟨rfl, ho, hg1⟩
  have hb : Below w.heap.size w40 w41 := (Below.refl w.heap.size w40).grown hg1 hz (fun g h => by have := HUr23.out g h; have := HZw2.out; have := HZw5.out; have := HZw8.out; have := HZw11.out; have := HZw13.out; have := HZw16.out; have := HZw19.out; have := HZw22.out; have := HZw24.out; have := HZw25.out; have := HZw28.out; have := HZw29.out; have := HZw32.out; have := HZw33.out; have := HZw36.out; have := HZw37.out; have := HZw38.out; have := HZw39.out; have := HZw40.out; omega)
  have hs : w40.heap.size ≤ w41.heap.size := hb.size
  replace HOr4 := Lib.hid (HOr4.out.marked hg1 (fun g a c => by have h3 := HUr23.out g a; have h4 := HUr4.out g c; have := HZw2.out; have := HZw5.out; have := HZw8.out; have := HZw11.out; have := HZw13.out; have := HZw16.out; have := HZw19.out; have := HZw22.out; have := HZw24.out; have := HZw25.out; have := HZw28.out; have := HZw29.out; have := HZw32.out; have := HZw33.out; have := HZw36.out; have := HZw37.out; have := HZw38.out; have := HZw39.out; have := HZw40.out; omega))
  replace HOr7 := Lib.hid (HOr7.out.marked hg1 (fun g a c => by have h3 := HUr23.out g a; have h4 := HUr7.out g c; have := HZw2.out; have := HZw5.out; have := HZw8.out; have := HZw11.out; have := HZw13.out; have := HZw16.out; have := HZw19.out; have := HZw22.out; have := HZw24.out; have := HZw25.out; have := HZw28.out; have := HZw29.out; have := HZw32.out; have := HZw33.out; have := HZw36.out; have := HZw37.out; have := HZw38.out; have := HZw39.out; have := HZw40.out; omega))
  replace HOr10 := Lib.hid (HOr10.out.marked hg1 (fun g a c => by have h3 := HUr23.out g a; have h4 := HUr10.out g c; have := HZw2.out; have := HZw5.out; have := HZw8.out; have := HZw11.out; have := HZw13.out; have := HZw16.out; have := HZw19.out; have := HZw22.out; have := HZw24.out; have := HZw25.out; have := HZw28.out; have := HZw29.out; have := HZw32.out; have := HZw33.out; have := HZw36.out; have := HZw37.out; have := HZw38.out; have := HZw39.out; have := HZw40.out; omega))
  replace HOr12 := Lib.hid (HOr12.out.marked hg1 (fun g a c => by have h3 := HUr23.out g a; have h4 := HUr12.out g c; have := HZw2.out; have := HZw5.out; have := HZw8.out; have := HZw11.out; have := HZw13.out; have := HZw16.out; have := HZw19.out; have := HZw22.out; have := HZw24.out; have := HZw25.out; have := HZw28.out; have := HZw29.out; have := HZw32.out; have := HZw33.out; have := HZw36.out; have := HZw37.out; have := HZw38.out; have := HZw39.out; have := HZw40.out; omega))
  replace HOr15 := Lib.hid (HOr15.out.marked hg1 (fun g a c => by have h3 := HUr23.out g a; have h4 := HUr15.out g c; have := HZw2.out; have := HZw5.out; have := HZw8.out; have := HZw11.out; have := HZw13.out; have := HZw16.out; have := HZw19.out; have := HZw22.out; have := HZw24.out; have := HZw25.out; have := HZw28.out; have := HZw29.out; have := HZw32.out; have := HZw33.out; have := HZw36.out; have := HZw37.out; have := HZw38.out; have := HZw39.out; have := HZw40.out; omega))
  replace HOr18 := Lib.hid (HOr18.out.marked hg1 (fun g a c => by have h3 := HUr23.out g a; have h4 := HUr18.out g c; have := HZw2.out; have := HZw5.out; have := HZw8.out; have := HZw11.out; have := HZw13.out; have := HZw16.out; have := HZw19.out; have := HZw22.out; have := HZw24.out; have := HZw25.out; have := HZw28.out; have := HZw29.out; have := HZw32.out; have := HZw33.out; have := HZw36.out; have := HZw37.out; have := HZw38.out; have := HZw39.out; have := HZw40.out; omega))
  replace HOr21 := Lib.hid (HOr21.out.marked hg1 (fun g a c => by have h3 := HUr23.out g a; have h4 := HUr21.out g c; have := HZw2.out; have := HZw5.out; have := HZw8.out; have := HZw11.out; have := HZw13.out; have := HZw16.out; have := HZw19.out; have := HZw22.out; have := HZw24.out; have := HZw25.out; have := HZw28.out; have := HZw29.out; have := HZw32.out; have := HZw33.out; have := HZw36.out; have := HZw37.out; have := HZw38.out; have := HZw39.out; have := HZw40.out; omega))
  replace HOr27 := Lib.hid (HOr27.out.marked hg1 (fun g a c => by have h3 := HUr23.out g a; have h4 := HUr27.out g c; have := HZw2.out; have := HZw5.out; have := HZw8.out; have := HZw11.out; have := HZw13.out; have := HZw16.out; have := HZw19.out; have := HZw22.out; have := HZw24.out; have := HZw25.out; have := HZw28.out; have := HZw29.out; have := HZw32.out; have := HZw33.out; have := HZw36.out; have := HZw37.out; have := HZw38.out; have := HZw39.out; have := HZw40.out; omega))
  replace HOr31 := Lib.hid (HOr31.out.marked hg1 (fun g a c => by have h3 := HUr23.out g a; have h4 := HUr31.out g c; have := HZw2.out; have := HZw5.out; have := HZw8.out; have := HZw11.out; have := HZw13.out; have := HZw16.out; have := HZw19.out; have := HZw22.out; have := HZw24.out; have := HZw25.out; have := HZw28.out; have := HZw29.out; have := HZw32.out; have := HZw33.out; have := HZw36.out; have := HZw37.out; have := HZw38.out; have := HZw39.out; have := HZw40.out; omega))
  replace HOr35 := Lib.hid (HOr35.out.marked hg1 (fun g a c => by have h3 := HUr23.out g a; have h4 := HUr35.out g c; have := HZw2.out; have := HZw5.out; have := HZw8.out; have := HZw11.out; have := HZw13.out; have := HZw16.out; have := HZw19.out; have := HZw22.out; have := HZw24.out; have := HZw25.out; have := HZw28.out; have := HZw29.out; have := HZw32.out; have := HZw33.out; have := HZw36.out; have := HZw37.out; have := HZw38.out; have := HZw39.out; have := HZw40.out; omega))
  replace HA0 := Lib.hid (HA0.out.below hb (HA0'.out))
  replace HA1 := Lib.hid (HA1.out.below hb (HA1'.out))
  replace HA2 := Lib.hid (HA2.out.below hb (HA2'.out))
  replace HB := Lib.hid (HB.out.trans hb)
  replace hz := Nat.le_trans hz hs
  have HZw41 := Lib.hid hs
  replace HOr23 := Lib.hid ho
  clear hb hs hg1 ho
  go_wp2_with fail
  refine (kit.heldIntS _ 1 (T1.length) (.slice yr23 T1.length qr23) w41 (by omega) (by omega) (by omega) HOr23.out).mono ?_
  rintro e w42 ⟨rfl, rfl⟩
  go_wp2_with fail
  refine (kit.toPlaceS a0 c0 L0 w41 (by omega) HA0.out).mono ?_
  rintro e w43 ⟨u44, rfl, ho, hb⟩
  obtain ⟨yr45, qr45, rfl⟩ := ho.shape
  replace HB := Lib.hid (HB.out.trans (hb.mono hz))
  replace hz := Nat.le_trans hz hb.size
  have HZw43 := Lib.hid hb.size
  replace HOr4 := Lib.hid (HOr4.out.later hb)
  replace HOr7 := Lib.hid (HOr7.out.later hb)
  replace HOr10 := Lib.hid (HOr10.out.later hb)
  replace HOr12 := Lib.hid (HOr12.out.later hb)
  replace HOr15 := Lib.hid (HOr15.out.later hb)
  replace HOr18 := Lib.hid (HOr18.out.later hb)
  replace HOr21 := Lib.hid (HOr21.out.later hb)
  replace HOr23 := Lib.hid (HOr23.out.later hb)
  replace HOr27 := Lib.hid (HOr27.out.later hb)
  replace HOr31 := Lib.hid (HOr31.out.later hb)
  replace HOr35 := Lib.hid (HOr35.out.later hb)
  replace HA0 := Lib.hid (HA0.out.later hb)
  replace HA1 := Lib.hid (HA1.out.later hb)
  replace HA2 := Lib.hid (HA2.out.later hb)
  have HOr45 := Lib.hid ho
  have HUr45 := Lib.hid ho.block
  clear ho
  clear hb
  go_wp2_with fail
  refine (kit.toIntS_any a1 c1 L1 w43 (by omega) HA1.out).mono ?_
  rintro e w46 ⟨u47, rfl, ho, hb⟩
  obtain ⟨yr48, qr48, rfl⟩ := ho.shape
  replace HB := Lib.hid (HB.out.trans (hb.mono hz))
  replace hz := Nat.le_trans hz hb.size
  have HZw46 := Lib.hid hb.size
  replace HOr4 := Lib.hid (HOr4.out.later hb)
  replace HOr7 := Lib.hid (HOr7.out.later hb)
  replace HOr10 := Lib.hid (HOr10.out.later hb)
  replace HOr12 := Lib.hid (HOr12.out.later hb)
  replace HOr15 := Lib.hid (HOr15.out.later hb)
  replace HOr18 := Lib.hid (HOr18.out.later hb)
  replace HOr21 := Lib.hid (HOr21.out.later hb)
  replace HOr23 := Lib.hid (HOr23.out.later hb)
  replace HOr27 := Lib.hid (HOr27.out.later hb)
  replace HOr31 := Lib.hid (HOr31.out.later hb)
  replace HOr35 := Lib.hid (HOr35.out.later hb)
  replace HOr45 := Lib.hid (HOr45.out.later hb)
  replace HA0 := Lib.hid (HA0.out.later hb)
  replace HA1 := Lib.hid (HA1.out.later hb)
  replace HA2 := Lib.hid (HA2.out.later hb)
  have HOr48 := Lib.hid ho
  have HUr48 := Lib.hid ho.block
  clear ho
  clear hb
  go_wp2_with fail
  refine (kit.toIntS_any a2 c2 L2 w46 (by omega) HA2.out).mono ?_
  rintro e w49 ⟨u50, rfl, ho, hb⟩
  obtain ⟨yr51, qr51, rfl⟩ := ho.shape
  replace HB := Lib.hid (HB.out.trans (hb.mono hz))
  replace hz := Nat.le_trans hz hb.size
  have HZw49 := Lib.hid hb.size
  replace HOr4 := Lib.hid (HOr4.out.later hb)
  replace HOr7 := Lib.hid (HOr7.out.later hb)
  replace HOr10 := Lib.hid (HOr10.out.later hb)
  replace HOr12 := Lib.hid (HOr12.out.later hb)
  replace HOr15 := Lib.hid (HOr15.out.later hb)
  replace HOr18 := Lib.hid (HOr18.out.later hb)
  replace HOr21 := Lib.hid (HOr21.out.later hb)
  replace HOr23 := Lib.hid (HOr23.out.later hb)
  replace HOr27 := Lib.hid (HOr27.out.later hb)
  replace HOr31 := Lib.hid (HOr31.out.later hb)
  replace HOr35 := Lib.hid (HOr35.out.later hb)
  replace HOr45 := Lib.hid (HOr45.out.later hb)
  replace HOr48 := Lib.hid (HOr48.out.later hb)
  replace HA0 := Lib.hid (HA0.out.later hb)
  replace HA1 := Lib.hid (HA1.out.later hb)
  replace HA2 := Lib.hid (HA2.out.later hb)
  have HOr51 := Lib.hid ho
  have HUr51 := Lib.hid ho.block
  clear ho
  clear hb
  go_wp2_with fail
  refine (kit.implPlanMembers _ (.slice yr45 L0.length qr45) L0 _ (.slice yr48 L1.length qr48) L1 _ (.slice yr51 L2.length qr51) L2 a3 w49 (by omega) HOr45.out (by omega) HOr48.out (by omega) HOr51.out).mono ?_
  rintro e w52 ⟨uI, he, hoI, hb⟩
  rw [HT1.out] at hoI
  obtain ⟨yr53, qr53, rfl⟩ := hoI.shape
  subst he
  replace HB := Lib.hid (HB.out.trans (hb.mono hz))
  replace hz := Nat.le_trans hz hb.size
  have HZw52 := Lib.hid hb.size
  replace HOr4 := Lib.hid (HOr4.out.later hb)
  replace HOr7 := Lib.hid (HOr7.out.later hb)
  replace HOr10 := Lib.hid (HOr10.out.later hb)
  replace HOr12 := Lib.hid (HOr12.out.later hb)
  replace HOr15 := Lib.hid (HOr15.out.later hb)
  replace HOr18 := Lib.hid (HOr18.out.later hb)
  replace HOr21 := Lib.hid (HOr21.out.later hb)
  replace HOr23 := Lib.hid (HOr23.out.later hb)
  replace HOr27 := Lib.hid (HOr27.out.later hb)
  replace HOr31 := Lib.hid (HOr31.out.later hb)
  replace HOr35 := Lib.hid (HOr35.out.later hb)
  replace HOr45 := Lib.hid (HOr45.out.later hb)
  replace HOr48 := Lib.hid (HOr48.out.later hb)
  replace HOr51 := Lib.hid (HOr51.out.later hb)
  replace HA0 := Lib.hid (HA0.out.later hb)
  replace HA1 := Lib.hid (HA1.out.later hb)
  replace HA2 := Lib.hid (HA2.out.later hb)
  have HOr53 := Lib.hid hoI
  have HUr53 := Lib.hid hoI.block
  clear hoI
  clear hb
  go_wp2_with fail
  refine (kit.eqIntSO _ _ (.slice yr53 T1.length qr53) (.slice yr12 T1.length qr12) T1 T1 w52 (by omega) (by omega) HOr53.out HOr12.out).mono ?_
  rintro e w54 ⟨he, hb⟩
  rw [decide_eq_true rfl] at he
  subst he
  replace HB := Lib.hid (HB.out.trans (hb.mono hz))
  replace hz := Nat.le_trans hz hb.size
  have HZw54 := Lib.hid hb.size
  replace HOr4 := Lib.hid (HOr4.out.later hb)
  replace HOr7 := Lib.hid (HOr7.out.later hb)
  replace HOr10 := Lib.hid (HOr10.out.later hb)
  replace HOr12 := Lib.hid (HOr12.out.later hb)
  replace HOr15 := Lib.hid (HOr15.out.later hb)
  replace HOr18 := Lib.hid (HOr18.out.later hb)
  replace HOr21 := Lib.hid (HOr21.out.later hb)
  replace HOr23 := Lib.hid (HOr23.out.later hb)
  replace HOr27 := Lib.hid (HOr27.out.later hb)
  replace HOr31 := Lib.hid (HOr31.out.later hb)
  replace HOr35 := Lib.hid (HOr35.out.later hb)
  replace HOr45 := Lib.hid (HOr45.out.later hb)
  replace HOr48 := Lib.hid (HOr48.out.later hb)
  replace HOr51 := Lib.hid (HOr51.out.later hb)
  replace HOr53 := Lib.hid (HOr53.out.later hb)
  replace HA0 := Lib.hid (HA0.out.later hb)
  replace HA1 := Lib.hid (HA1.out.later hb)
  replace HA2 := Lib.hid (HA2.out.later hb)
  clear hb
  go_wp2_with fail
  refine (kit.heldIntS _ 1 (T1.length) (.slice yr23 T1.length qr23) w54 (by omega) (by omega) (by omega) HOr23.out).mono ?_
  rintro e w55 ⟨rfl, rfl⟩
  go_wp2_with fail
  go_ret
  exact ⟨rfl, HB.out⟩
set_option maxRecDepth 100000 in
theorem lifted (os : Os) (started : os.Started) (H : Type) (enc : TypeId × Value → H) :
    ReturnsInHanded {} Try.checked os 8 .any (Rows.fnExactPlanMembersSpec.pre6 enc Try.prog Try.f8 Rows.fnExactPlanMembersRow.domain false) (Rows.fnExactPlanMembersSpec.post enc Try.prog Try.f8 false true false false) := by
  refine returnsInHanded_of_change (C := Try.checked) kit.own started (by kernel_rfl) Try.func8
    (ChangeSpec.witness6 (enc := enc) (C := Try.checked) false ⟨#[], #[.slice none 0 0, .slice none 0 0, .slice none 0 0, .int .i64 0], []⟩ 8 (by kernel_rfl) (by kernel_rfl) (by kernel_rfl) (by kernel_rfl)) ?_
  intro W base args ds gs before hval0 hW hcnd _
  have hval : ∀ (j : Nat) t v, Try.f8.params[j]? = some t → args[j]? = some v → Value.okWide Try.prog W .any base t v := hval0
  have hW' := hW
  obtain ⟨p, q, hA0, hV, rfl, hfz, hnd⟩ := hW
  have hA : DataW.TrodAll enc Try.prog W 0 (fun _ => true) true Try.f8.params.toList args.toList ds p := hA0
  rw [Try.params8] at hA hval
  obtain ⟨v0, vs0, d0, ds0, p0, q0, hargs, rfl, rfl, h0, r0⟩ := trodAll_cons hA
  obtain ⟨v1, vs1, d1, ds1, p1, q1, rfl, rfl, rfl, h1, r1⟩ := trodAll_cons r0
  obtain ⟨v2, vs2, d2, ds2, p2, q2, rfl, rfl, rfl, h2, r2⟩ := trodAll_cons r1
  obtain ⟨v3, vs3, d3, ds3, p3, q3, rfl, rfl, rfl, h3, r3⟩ := trodAll_cons r2
  obtain ⟨rfl, rfl, rfl⟩ := trodAll_nil r3
  obtain rfl : args = #[v0, v1, v2, v3] := by cases args; simp_all
  obtain ⟨rfl, rfl⟩ := trodVars_none hV
  have k0 := h0
  have lt0 : ∀ x ∈ p0, x.block < W.heap.size := by obtain ⟨m, hm⟩ := k0; exact DataW.trod_lt m _ _ _ hm
  obtain ⟨a0, len0, cap0, rfl⟩ := okWide_slice Try.underlying41 (hval 0 41 v0 rfl rfl)
  obtain ⟨a0', c0, L0, he0, wa0, wl0⟩ := kit.open_plaV h0 lt0 rfl
  injection he0 with he0a he0b he0c
  subst he0a he0b he0c
  obtain ⟨a1, len1, cap1, rfl⟩ := okWide_slice Try.underlying25 (hval 1 25 v1 rfl rfl)
  have k1 := h1
  have lt1 : ∀ x ∈ p1, x.block < W.heap.size := by obtain ⟨m, hm⟩ := k1; exact DataW.trod_lt m _ _ _ hm
  obtain ⟨z1, w1⟩ : ∃ zs, kit.IsRow .i64 W a1 len1 cap1 zs := by
    obtain ⟨fuel, hf⟩ := h1
    rcases open_ints Try.underlying25 Try.underlying3 (by kernel_rfl) hf with ⟨hcs, _⟩ | ⟨x, l, c, zs, hcs, _, hl, hm, hz, _, hcell, hwz⟩
    · simp [Value.cells] at hcs
      obtain ⟨rfl, rfl, rfl⟩ := hcs
      exact ⟨[], .inl ⟨rfl, rfl, rfl, rfl⟩⟩
    · simp [Value.cells] at hcs
      obtain ⟨rfl, rfl, rfl⟩ := hcs
      exact ⟨zs, .inr ⟨_, rfl, hl, hm, by simpa using hz, hcell, hwz⟩⟩
  obtain ⟨L1, hl1, wa1, wl1⟩ := kit.IsRow.listM w1
  subst hl1
  obtain ⟨a2, len2, cap2, rfl⟩ := okWide_slice Try.underlying25 (hval 2 25 v2 rfl rfl)
  have k2 := h2
  have lt2 : ∀ x ∈ p2, x.block < W.heap.size := by obtain ⟨m, hm⟩ := k2; exact DataW.trod_lt m _ _ _ hm
  obtain ⟨z2, w2⟩ : ∃ zs, kit.IsRow .i64 W a2 len2 cap2 zs := by
    obtain ⟨fuel, hf⟩ := h2
    rcases open_ints Try.underlying25 Try.underlying3 (by kernel_rfl) hf with ⟨hcs, _⟩ | ⟨x, l, c, zs, hcs, _, hl, hm, hz, _, hcell, hwz⟩
    · simp [Value.cells] at hcs
      obtain ⟨rfl, rfl, rfl⟩ := hcs
      exact ⟨[], .inl ⟨rfl, rfl, rfl, rfl⟩⟩
    · simp [Value.cells] at hcs
      obtain ⟨rfl, rfl, rfl⟩ := hcs
      exact ⟨zs, .inr ⟨_, rfl, hl, hm, by simpa using hz, hcell, hwz⟩⟩
  obtain ⟨L2, hl2, wa2, wl2⟩ := kit.IsRow.listM w2
  subst hl2
  obtain ⟨a3, rfl, rfl, rfl, w3⟩ := open_int Try.underlying3 (hval 3 3 v3 rfl rfl) h3
  clear hA0 hval0
  refine (walk _ _ L0 _ _ L1 _ _ L2 a3 W wa0 wl0 wa1 wl1 wa2 wl2 w3).mono fun e W' ⟨he, bel⟩ => ?_
  subst he
  exact ⟨_, rfl, _, _, _, [], _, [], hW', trodAll_mk1 (shut_bool Try.underlying4 _), (trodAll_cons_mk (Below.trod kit.laidOut (by kernel_rfl) (of_decide_eq_true (by kernel_rfl)) k0 bel lt0) (trodAll_cons_mk (Below.trod kit.laidOut (by kernel_rfl) (of_decide_eq_true (by kernel_rfl)) k1 bel lt1) (trodAll_cons_mk (Below.trod kit.laidOut (by kernel_rfl) (of_decide_eq_true (by kernel_rfl)) k2 bel lt2) (trodAll_cons_mk (shut_int Try.underlying3 w3) trodAll_mk0)))), rfl, bel.frame _, fun h => by cases h⟩

theorem proved : Rows.FnExactPlanMembersSaid :=
  OpenClaim.holds_of_wide 8 Try.f8 rfl rfl rfl rfl rfl rfl rfl ⟨rfl, rfl, rfl, rfl, rfl⟩ rfl rfl rfl rfl rfl (by kernel_rfl) Try.func8 (by kernel_rfl)
    (of_decide_eq_true (by kernel_rfl)) (by unfold Func.isWrapper; first | (rw [if_pos (by decide +kernel)]; kernel_rfl) | (rw [if_neg (by decide +kernel)]; exact ⟨rfl, rfl⟩))
    (fun os started H enc _ => lifted os started H enc)
end Go.Proofs.Ytpdpejlcilnafaa.fnExactPlanMembers
