/-
  For every []Place and []int (the law passes over those with more than 2^20 elements), impl's RacksOf returns the same list as the specification's, in memory of its own, and leaves its arguments as they were: the law returns true and changes nothing that was there. No other condition.
-/
import Derived.Test.YtpdpejlcilnafaaS9Impl
import Derived.Test.YtpdpejlcilnafaaS9Spec2
import Derived.Test.YtpdpejlcilnafaaPlas3
import Derived.Test.YtpdpejlcilnafaaIntRow
import Derived.Deep.RegionWith
import Derived.Deep.DeepCutAuto
namespace Go.Proofs.Ytpdpejlcilnafaa.fnExactRacksOf
open Go.ChangeShapes Go.WideShapes Go.ChangeAt Go.RowKit
open Go.ChangeMaps (open_string shut_string)
set_option linter.unusedVariables false

set_option maxRecDepth 100000 in
set_option maxHeartbeats 16000000 in
theorem walk (a0 : Option Addr) (c0 : Nat) (L0 : List kit.Pla) (a1 : Option Addr) (c1 : Nat) (L1 : List Int) (w : World) (wa0 : kit.AtQ w a0 L0) (wl0 : L0.length ≤ maxLen) (wa1 : kit.At w a1 L1) (wl1 : L1.length ≤ maxLen) :
    Calls Try.prog 6 #[.slice a0 L0.length c0, .slice a1 L1.length c1] w fun e w' => e = .returned (.bool true) ∧ Below w.heap.size w w' := by
  unfold maxLen at wl0
  have HA0' := Lib.hid (kit.atQ_low wa0)
  have HA0 := Lib.hid wa0
  clear wa0
  unfold maxLen at wl1
  have HA1' := Lib.hid (kit.at_low wa1)
  have HA1 := Lib.hid wa1
  clear wa1
  have HB := Lib.hid (Below.refl w.heap.size w)
  have hz : w.heap.size ≤ w.heap.size := Nat.le_refl _
  by_cases hbiga1 : L1.length > 1048576
  · go_enter Try.func6, Try.ntmps6
    go_wp2_with fail
    go_ret
    exact ⟨rfl, Below.refl _ _⟩
  go_enter Try.func6, Try.ntmps6
  go_wp2_with fail
  refine (kit.szPlaceS a0 L0.length c0 (1048576) w (by omega) (by omega) (by omega)).mono ?_
  rintro e w1 ⟨rfl, hw⟩
  subst hw
  by_cases hs1 : ¬ (L0.length : Int) ≤ 1048576
  · rw [if_neg hs1]
    go_wp2_with fail
    go_ret
    exact ⟨rfl, HB.out⟩
  replace hs1 := Decidable.not_not.1 hs1
  rw [if_pos hs1]
  go_wp2_with fail
  refine (kit.toPlaceS a0 c0 L0 w (by omega) HA0.out).mono ?_
  rintro e w2 ⟨u3, rfl, ho, hb⟩
  obtain ⟨yr4, qr4, rfl⟩ := ho.shape
  replace HB := Lib.hid (HB.out.trans (hb.mono hz))
  replace hz := Nat.le_trans hz hb.size
  have HZw2 := Lib.hid hb.size
  replace HA0 := Lib.hid (HA0.out.later hb)
  replace HA1 := Lib.hid (HA1.out.later hb)
  have HOr4 := Lib.hid ho
  have HUr4 := Lib.hid ho.block
  clear ho
  clear hb
  go_wp2_with fail
  refine (kit.toIntS_any a1 c1 L1 w2 (by omega) HA1.out).mono ?_
  rintro e w5 ⟨u6, rfl, ho, hb⟩
  obtain ⟨yr7, qr7, rfl⟩ := ho.shape
  replace HB := Lib.hid (HB.out.trans (hb.mono hz))
  replace hz := Nat.le_trans hz hb.size
  have HZw5 := Lib.hid hb.size
  replace HOr4 := Lib.hid (HOr4.out.later hb)
  replace HA0 := Lib.hid (HA0.out.later hb)
  replace HA1 := Lib.hid (HA1.out.later hb)
  have HOr7 := Lib.hid ho
  have HUr7 := Lib.hid ho.block
  clear ho
  clear hb
  go_wp2_with fail
  refine (kit.specRacksOf _ (.slice yr4 L0.length qr4) L0 _ (.slice yr7 L1.length qr7) L1 w5 (by omega) HOr4.out (by omega) HOr7.out).mono ?_
  rintro e w8 ⟨uI, he, hoI, hb⟩
  generalize hT1 : kit.racksP L0 L1 = T1 at hoI
  have lT1 : T1.length ≤ 4194304 := by rw [← hT1]; exact Nat.le_trans (kit.racksP_len _ _) (by omega)
  have HT1 := Lib.hid hT1
  clear hT1
  obtain ⟨yr9, qr9, rfl⟩ := hoI.shape
  subst he
  replace HB := Lib.hid (HB.out.trans (hb.mono hz))
  replace hz := Nat.le_trans hz hb.size
  have HZw8 := Lib.hid hb.size
  replace HOr4 := Lib.hid (HOr4.out.later hb)
  replace HOr7 := Lib.hid (HOr7.out.later hb)
  replace HA0 := Lib.hid (HA0.out.later hb)
  replace HA1 := Lib.hid (HA1.out.later hb)
  have HOr9 := Lib.hid hoI
  have HUr9 := Lib.hid hoI.block
  clear hoI
  clear hb
  go_wp2_with fail
  refine (kit.toPlaceS a0 c0 L0 w8 (by omega) HA0.out).mono ?_
  rintro e w10 ⟨u11, rfl, ho, hb⟩
  obtain ⟨yr12, qr12, rfl⟩ := ho.shape
  replace HB := Lib.hid (HB.out.trans (hb.mono hz))
  replace hz := Nat.le_trans hz hb.size
  have HZw10 := Lib.hid hb.size
  replace HOr4 := Lib.hid (HOr4.out.later hb)
  replace HOr7 := Lib.hid (HOr7.out.later hb)
  replace HOr9 := Lib.hid (HOr9.out.later hb)
  replace HA0 := Lib.hid (HA0.out.later hb)
  replace HA1 := Lib.hid (HA1.out.later hb)
  have HOr12 := Lib.hid ho
  have HUr12 := Lib.hid ho.block
  clear ho
  clear hb
  go_wp2_with fail
  refine (kit.toIntS_any a1 c1 L1 w10 (by omega) HA1.out).mono ?_
  rintro e w13 ⟨u14, rfl, ho, hb⟩
  obtain ⟨yr15, qr15, rfl⟩ := ho.shape
  replace HB := Lib.hid (HB.out.trans (hb.mono hz))
  replace hz := Nat.le_trans hz hb.size
  have HZw13 := Lib.hid hb.size
  replace HOr4 := Lib.hid (HOr4.out.later hb)
  replace HOr7 := Lib.hid (HOr7.out.later hb)
  replace HOr9 := Lib.hid (HOr9.out.later hb)
  replace HOr12 := Lib.hid (HOr12.out.later hb)
  replace HA0 := Lib.hid (HA0.out.later hb)
  replace HA1 := Lib.hid (HA1.out.later hb)
  have HOr15 := Lib.hid ho
  have HUr15 := Lib.hid ho.block
  clear ho
  clear hb
  go_wp2_with fail
  refine (kit.implRacksOf _ (.slice yr12 L0.length qr12) L0 _ (.slice yr15 L1.length qr15) L1 w13 (by omega) HOr12.out (by omega) HOr15.out).mono ?_
  rintro e w16 ⟨uI, he, hoI, hb⟩
  rw [HT1.out] at hoI
  obtain ⟨yr17, qr17, rfl⟩ := hoI.shape
  subst he
  replace HB := Lib.hid (HB.out.trans (hb.mono hz))
  replace hz := Nat.le_trans hz hb.size
  have HZw16 := Lib.hid hb.size
  replace HOr4 := Lib.hid (HOr4.out.later hb)
  replace HOr7 := Lib.hid (HOr7.out.later hb)
  replace HOr9 := Lib.hid (HOr9.out.later hb)
  replace HOr12 := Lib.hid (HOr12.out.later hb)
  replace HOr15 := Lib.hid (HOr15.out.later hb)
  replace HA0 := Lib.hid (HA0.out.later hb)
  replace HA1 := Lib.hid (HA1.out.later hb)
  have HOr17 := Lib.hid hoI
  have HUr17 := Lib.hid hoI.block
  clear hoI
  clear hb
  go_wp2_with fail
  refine (kit.eqIntSO _ _ (.slice yr17 T1.length qr17) (.slice yr9 T1.length qr9) T1 T1 w16 (by omega) (by omega) HOr17.out HOr9.out).mono ?_
  rintro e w18 ⟨he, hb⟩
  rw [decide_eq_true rfl] at he
  subst he
  replace HB := Lib.hid (HB.out.trans (hb.mono hz))
  replace hz := Nat.le_trans hz hb.size
  have HZw18 := Lib.hid hb.size
  replace HOr4 := Lib.hid (HOr4.out.later hb)
  replace HOr7 := Lib.hid (HOr7.out.later hb)
  replace HOr9 := Lib.hid (HOr9.out.later hb)
  replace HOr12 := Lib.hid (HOr12.out.later hb)
  replace HOr15 := Lib.hid (HOr15.out.later hb)
  replace HOr17 := Lib.hid (HOr17.out.later hb)
  replace HA0 := Lib.hid (HA0.out.later hb)
  replace HA1 := Lib.hid (HA1.out.later hb)
  clear hb
  go_wp2_with fail
  refine (kit.toPlaceS a0 c0 L0 w18 (by omega) HA0.out).mono ?_
  rintro e w19 ⟨u20, rfl, ho, hb⟩
  obtain ⟨yr21, qr21, rfl⟩ := ho.shape
  replace HB := Lib.hid (HB.out.trans (hb.mono hz))
  replace hz := Nat.le_trans hz hb.size
  have HZw19 := Lib.hid hb.size
  replace HOr4 := Lib.hid (HOr4.out.later hb)
  replace HOr7 := Lib.hid (HOr7.out.later hb)
  replace HOr9 := Lib.hid (HOr9.out.later hb)
  replace HOr12 := Lib.hid (HOr12.out.later hb)
  replace HOr15 := Lib.hid (HOr15.out.later hb)
  replace HOr17 := Lib.hid (HOr17.out.later hb)
  replace HA0 := Lib.hid (HA0.out.later hb)
  replace HA1 := Lib.hid (HA1.out.later hb)
  have HOr21 := Lib.hid ho
  have HUr21 := Lib.hid ho.block
  clear ho
  clear hb
  go_wp2_with fail
  refine (kit.eqPlaceSO _ _ (.slice yr12 L0.length qr12) (.slice yr21 L0.length qr21) L0 L0 w19 (by omega) (by omega) HOr12.out HOr21.out).mono ?_
  rintro e w22 ⟨he, hb⟩
  rw [decide_eq_true rfl] at he
  subst he
  replace HB := Lib.hid (HB.out.trans (hb.mono hz))
  replace hz := Nat.le_trans hz hb.size
  have HZw22 := Lib.hid hb.size
  replace HOr4 := Lib.hid (HOr4.out.later hb)
  replace HOr7 := Lib.hid (HOr7.out.later hb)
  replace HOr9 := Lib.hid (HOr9.out.later hb)
  replace HOr12 := Lib.hid (HOr12.out.later hb)
  replace HOr15 := Lib.hid (HOr15.out.later hb)
  replace HOr17 := Lib.hid (HOr17.out.later hb)
  replace HOr21 := Lib.hid (HOr21.out.later hb)
  replace HA0 := Lib.hid (HA0.out.later hb)
  replace HA1 := Lib.hid (HA1.out.later hb)
  clear hb
  go_wp2_with fail
  refine (kit.toIntS_any a1 c1 L1 w22 (by omega) HA1.out).mono ?_
  rintro e w23 ⟨u24, rfl, ho, hb⟩
  obtain ⟨yr25, qr25, rfl⟩ := ho.shape
  replace HB := Lib.hid (HB.out.trans (hb.mono hz))
  replace hz := Nat.le_trans hz hb.size
  have HZw23 := Lib.hid hb.size
  replace HOr4 := Lib.hid (HOr4.out.later hb)
  replace HOr7 := Lib.hid (HOr7.out.later hb)
  replace HOr9 := Lib.hid (HOr9.out.later hb)
  replace HOr12 := Lib.hid (HOr12.out.later hb)
  replace HOr15 := Lib.hid (HOr15.out.later hb)
  replace HOr17 := Lib.hid (HOr17.out.later hb)
  replace HOr21 := Lib.hid (HOr21.out.later hb)
  replace HA0 := Lib.hid (HA0.out.later hb)
  replace HA1 := Lib.hid (HA1.out.later hb)
  have HOr25 := Lib.hid ho
  have HUr25 := Lib.hid ho.block
  clear ho
  clear hb
  go_wp2_with fail
  refine (kit.eqIntSO _ _ (.slice yr15 L1.length qr15) (.slice yr25 L1.length qr25) L1 L1 w23 (by omega) (by omega) HOr15.out HOr25.out).mono ?_
  rintro e w26 ⟨he, hb⟩
  rw [decide_eq_true rfl] at he
  subst he
  replace HB := Lib.hid (HB.out.trans (hb.mono hz))
  replace hz := Nat.le_trans hz hb.size
  have HZw26 := Lib.hid hb.size
  replace HOr4 := Lib.hid (HOr4.out.later hb)
  replace HOr7 := Lib.hid (HOr7.out.later hb)
  replace HOr9 := Lib.hid (HOr9.out.later hb)
  replace HOr12 := Lib.hid (HOr12.out.later hb)
  replace HOr15 := Lib.hid (HOr15.out.later hb)
  replace HOr17 := Lib.hid (HOr17.out.later hb)
  replace HOr21 := Lib.hid (HOr21.out.later hb)
  replace HOr25 := Lib.hid (HOr25.out.later hb)
  replace HA0 := Lib.hid (HA0.out.later hb)
  replace HA1 := Lib.hid (HA1.out.later hb)
  clear hb
  go_wp2_with fail
  refine (kit.markPlaceS _ (1) (.slice yr12 L0.length qr12) L0 w26 (by omega) (by omega) (by omega) HOr12.out).mono ?_
  rintro e w27 ⟨rfl, ho, hg1⟩
  have hb : Below w.heap.size w26 w27 := (Below.refl w.heap.size w26).grown hg1 hz (fun g h => by have := HUr12.out g h; have := HZw2.out; have := HZw5.out; have := HZw8.out; have := HZw10.out; have := HZw13.out; have := HZw16.out; have := HZw18.out; have := HZw19.out; have := HZw22.out; have := HZw23.out; have := HZw26.out; omega)
  have hs : w26.heap.size ≤ w27.heap.size := hb.size
  replace HOr4 := Lib.hid (HOr4.out.marked hg1 (fun g a c => by have h3 := HUr12.out g a; have h4 := HUr4.out g c; have := HZw2.out; have := HZw5.out; have := HZw8.out; have := HZw10.out; have := HZw13.out; have := HZw16.out; have := HZw18.out; have := HZw19.out; have := HZw22.out; have := HZw23.out; have := HZw26.out; omega))
  replace HOr7 := Lib.hid (HOr7.out.marked hg1 (fun g a c => by have h3 := HUr12.out g a; have h4 := HUr7.out g c; have := HZw2.out; have := HZw5.out; have := HZw8.out; have := HZw10.out; have := HZw13.out; have := HZw16.out; have := HZw18.out; have := HZw19.out; have := HZw22.out; have := HZw23.out; have := HZw26.out; omega))
  replace HOr9 := Lib.hid (HOr9.out.marked hg1 (fun g a c => by have h3 := HUr12.out g a; have h4 := HUr9.out g c; have := HZw2.out; have := HZw5.out; have := HZw8.out; have := HZw10.out; have := HZw13.out; have := HZw16.out; have := HZw18.out; have := HZw19.out; have := HZw22.out; have := HZw23.out; have := HZw26.out; omega))
  replace HOr15 := Lib.hid (HOr15.out.marked hg1 (fun g a c => by have h3 := HUr12.out g a; have h4 := HUr15.out g c; have := HZw2.out; have := HZw5.out; have := HZw8.out; have := HZw10.out; have := HZw13.out; have := HZw16.out; have := HZw18.out; have := HZw19.out; have := HZw22.out; have := HZw23.out; have := HZw26.out; omega))
  replace HOr17 := Lib.hid (HOr17.out.marked hg1 (fun g a c => by have h3 := HUr12.out g a; have h4 := HUr17.out g c; have := HZw2.out; have := HZw5.out; have := HZw8.out; have := HZw10.out; have := HZw13.out; have := HZw16.out; have := HZw18.out; have := HZw19.out; have := HZw22.out; have := HZw23.out; have := HZw26.out; omega))
  replace HOr21 := Lib.hid (HOr21.out.marked hg1 (fun g a c => by have h3 := HUr12.out g a; have h4 := HUr21.out g c; have := HZw2.out; have := HZw5.out; have := HZw8.out; have := HZw10.out; have := HZw13.out; have := HZw16.out; have := HZw18.out; have := HZw19.out; have := HZw22.out; have := HZw23.out; have := HZw26.out; omega))
  replace HOr25 := Lib.hid (HOr25.out.marked hg1 (fun g a c => by have h3 := HUr12.out g a; have h4 := HUr25.out g c; have := HZw2.out; have := HZw5.out; have := HZw8.out; have := HZw10.out; have := HZw13.out; have := HZw16.out; have := HZw18.out; have := HZw19.out; have := HZw22.out; have := HZw23.out; have := HZw26.out; omega))
  replace HA0 := Lib.hid (HA0.out.below hb (HA0'.out))
  replace HA1 := Lib.hid (HA1.out.below hb (HA1'.out))
  replace HB := Lib.hid (HB.out.trans hb)
  replace hz := Nat.le_trans hz hs
  have HZw27 := Lib.hid hs
  replace HOr12 := Lib.hid ho
  clear hb hs hg1 ho
  go_wp2_with fail
  refine (kit.markIntS _ (1 + 3 * (L0.length : Int)) (.slice yr15 L1.length qr15) L1 w27 (by omega) (by omega) (by omega) HOr15.out).mono ?_
  rintro e w28 ⟨rfl, ho, hg1⟩
  have hb : Below w.heap.size w27 w28 := (Below.refl w.heap.size w27).grown hg1 hz (fun g h => by have := HUr15.out g h; have := HZw2.out; have := HZw5.out; have := HZw8.out; have := HZw10.out; have := HZw13.out; have := HZw16.out; have := HZw18.out; have := HZw19.out; have := HZw22.out; have := HZw23.out; have := HZw26.out; have := HZw27.out; omega)
  have hs : w27.heap.size ≤ w28.heap.size := hb.size
  replace HOr4 := Lib.hid (HOr4.out.marked hg1 (fun g a c => by have h3 := HUr15.out g a; have h4 := HUr4.out g c; have := HZw2.out; have := HZw5.out; have := HZw8.out; have := HZw10.out; have := HZw13.out; have := HZw16.out; have := HZw18.out; have := HZw19.out; have := HZw22.out; have := HZw23.out; have := HZw26.out; have := HZw27.out; omega))
  replace HOr7 := Lib.hid (HOr7.out.marked hg1 (fun g a c => by have h3 := HUr15.out g a; have h4 := HUr7.out g c; have := HZw2.out; have := HZw5.out; have := HZw8.out; have := HZw10.out; have := HZw13.out; have := HZw16.out; have := HZw18.out; have := HZw19.out; have := HZw22.out; have := HZw23.out; have := HZw26.out; have := HZw27.out; omega))
  replace HOr9 := Lib.hid (HOr9.out.marked hg1 (fun g a c => by have h3 := HUr15.out g a; have h4 := HUr9.out g c; have := HZw2.out; have := HZw5.out; have := HZw8.out; have := HZw10.out; have := HZw13.out; have := HZw16.out; have := HZw18.out; have := HZw19.out; have := HZw22.out; have := HZw23.out; have := HZw26.out; have := HZw27.out; omega))
  replace HOr12 := Lib.hid (HOr12.out.marked hg1 (fun g a c => by have h3 := HUr15.out g a; have h4 := HUr12.out g c; have := HZw2.out; have := HZw5.out; have := HZw8.out; have := HZw10.out; have := HZw13.out; have := HZw16.out; have := HZw18.out; have := HZw19.out; have := HZw22.out; have := HZw23.out; have := HZw26.out; have := HZw27.out; omega))
  replace HOr17 := Lib.hid (HOr17.out.marked hg1 (fun g a c => by have h3 := HUr15.out g a; have h4 := HUr17.out g c; have := HZw2.out; have := HZw5.out; have := HZw8.out; have := HZw10.out; have := HZw13.out; have := HZw16.out; have := HZw18.out; have := HZw19.out; have := HZw22.out; have := HZw23.out; have := HZw26.out; have := HZw27.out; omega))
  replace HOr21 := Lib.hid (HOr21.out.marked hg1 (fun g a c => by have h3 := HUr15.out g a; have h4 := HUr21.out g c; have := HZw2.out; have := HZw5.out; have := HZw8.out; have := HZw10.out; have := HZw13.out; have := HZw16.out; have := HZw18.out; have := HZw19.out; have := HZw22.out; have := HZw23.out; have := HZw26.out; have := HZw27.out; omega))
  replace HOr25 := Lib.hid (HOr25.out.marked hg1 (fun g a c => by have h3 := HUr15.out g a; have h4 := HUr25.out g c; have := HZw2.out; have := HZw5.out; have := HZw8.out; have := HZw10.out; have := HZw13.out; have := HZw16.out; have := HZw18.out; have := HZw19.out; have := HZw22.out; have := HZw23.out; have := HZw26.out; have := HZw27.out; omega))
  replace HA0 := Lib.hid (HA0.out.below hb (HA0'.out))
  replace HA1 := Lib.hid (HA1.out.below hb (HA1'.out))
  replace HB := Lib.hid (HB.out.trans hb)
  replace hz := Nat.le_trans hz hs
  have HZw28 := Lib.hid hs
  replace HOr15 := Lib.hid ho
  clear hb hs hg1 ho
  go_wp2_with fail
  refine (kit.eqIntSO _ _ (.slice yr17 T1.length qr17) (.slice yr9 T1.length qr9) T1 T1 w28 (by omega) (by omega) HOr17.out HOr9.out).mono ?_
  rintro e w29 ⟨he, hb⟩
  rw [decide_eq_true rfl] at he
  subst he
  replace HB := Lib.hid (HB.out.trans (hb.mono hz))
  replace hz := Nat.le_trans hz hb.size
  have HZw29 := Lib.hid hb.size
  replace HOr4 := Lib.hid (HOr4.out.later hb)
  replace HOr7 := Lib.hid (HOr7.out.later hb)
  replace HOr9 := Lib.hid (HOr9.out.later hb)
  replace HOr12 := Lib.hid (HOr12.out.later hb)
  replace HOr15 := Lib.hid (HOr15.out.later hb)
  replace HOr17 := Lib.hid (HOr17.out.later hb)
  replace HOr21 := Lib.hid (HOr21.out.later hb)
  replace HOr25 := Lib.hid (HOr25.out.later hb)
  replace HA0 := Lib.hid (HA0.out.later hb)
  replace HA1 := Lib.hid (HA1.out.later hb)
  clear hb
  go_wp2_with fail
  refine (kit.markIntS _ (1) (.slice yr17 T1.length qr17) T1 w29 (by omega) (by omega) (by omega) HOr17.out).mono ?_
  rintro e w30 ⟨rfl, ho, hg1⟩
  have hb : Below w.heap.size w29 w30 := (Below.refl w.heap.size w29).grown hg1 hz (fun g h => by have := HUr17.out g h; have := HZw2.out; have := HZw5.out; have := HZw8.out; have := HZw10.out; have := HZw13.out; have := HZw16.out; have := HZw18.out; have := HZw19.out; have := HZw22.out; have := HZw23.out; have := HZw26.out; have := HZw27.out; have := HZw28.out; have := HZw29.out; omega)
  have hs : w29.heap.size ≤ w30.heap.size := hb.size
  replace HOr4 := Lib.hid (HOr4.out.marked hg1 (fun g a c => by have h3 := HUr17.out g a; have h4 := HUr4.out g c; have := HZw2.out; have := HZw5.out; have := HZw8.out; have := HZw10.out; have := HZw13.out; have := HZw16.out; have := HZw18.out; have := HZw19.out; have := HZw22.out; have := HZw23.out; have := HZw26.out; have := HZw27.out; have := HZw28.out; have := HZw29.out; omega))
  replace HOr7 := Lib.hid (HOr7.out.marked hg1 (fun g a c => by have h3 := HUr17.out g a; have h4 := HUr7.out g c; have := HZw2.out; have := HZw5.out; have := HZw8.out; have := HZw10.out; have := HZw13.out; have := HZw16.out; have := HZw18.out; have := HZw19.out; have := HZw22.out; have := HZw23.out; have := HZw26.out; have := HZw27.out; have := HZw28.out; have := HZw29.out; omega))
  replace HOr9 := Lib.hid (HOr9.out.marked hg1 (fun g a c => by have h3 := HUr17.out g a; have h4 := HUr9.out g c; have := HZw2.out; have := HZw5.out; have := HZw8.out; have := HZw10.out; have := HZw13.out; have := HZw16.out; have := HZw18.out; have := HZw19.out; have := HZw22.out; have := HZw23.out; have := HZw26.out; have := HZw27.out; have := HZw28.out; have := HZw29.out; omega))
  replace HOr12 := Lib.hid (HOr12.out.marked hg1 (fun g a c => by have h3 := HUr17.out g a; have h4 := HUr12.out g c; have := HZw2.out; have := HZw5.out; have := HZw8.out; have := HZw10.out; have := HZw13.out; have := HZw16.out; have := HZw18.out; have := HZw19.out; have := HZw22.out; have := HZw23.out; have := HZw26.out; have := HZw27.out; have := HZw28.out; have := HZw29.out; omega))
  replace HOr15 := Lib.hid (HOr15.out.marked hg1 (fun g a c => by have h3 := HUr17.out g a; have h4 := HUr15.out g c; have := HZw2.out; have := HZw5.out; have := HZw8.out; have := HZw10.out; have := HZw13.out; have := HZw16.out; have := HZw18.out; have := HZw19.out; have := HZw22.out; have := HZw23.out; have := HZw26.out; have := HZw27.out; have := HZw28.out; have := HZw29.out; omega))
  replace HOr21 := Lib.hid (HOr21.out.marked hg1 (fun g a c => by have h3 := HUr17.out g a; have h4 := HUr21.out g c; have := HZw2.out; have := HZw5.out; have := HZw8.out; have := HZw10.out; have := HZw13.out; have := HZw16.out; have := HZw18.out; have := HZw19.out; have := HZw22.out; have := HZw23.out; have := HZw26.out; have := HZw27.out; have := HZw28.out; have := HZw29.out; omega))
  replace HOr25 := Lib.hid (HOr25.out.marked hg1 (fun g a c => by have h3 := HUr17.out g a; have h4 := HUr25.out g c; have := HZw2.out; have := HZw5.out; have := HZw8.out; have := HZw10.out; have := HZw13.out; have := HZw16.out; have := HZw18.out; have := HZw19.out; have := HZw22.out; have := HZw23.out; have := HZw26.out; have := HZw27.out; have := HZw28.out; have := HZw29.out; omega))
  replace HA0 := Lib.hid (HA0.out.below hb (HA0'.out))
  replace HA1 := Lib.hid (HA1.out.below hb (HA1'.out))
  replace HB := Lib.hid (HB.out.trans hb)
  replace hz := Nat.le_trans hz hs
  have HZw30 := Lib.hid hs
  replace HOr17 := Lib.hid ho
  clear hb hs hg1 ho
  go_wp2_with fail
  refine (kit.heldIntS _ 1 (T1.length) (.slice yr17 T1.length qr17) w30 (by omega) (by omega) (by omega) HOr17.out).mono ?_
  rintro e w31 ⟨rfl, rfl⟩
  go_wp2_with fail
  refine (kit.toPlaceS a0 c0 L0 w30 (by omega) HA0.out).mono ?_
  rintro e w32 ⟨u33, rfl, ho, hb⟩
  obtain ⟨yr34, qr34, rfl⟩ := ho.shape
  replace HB := Lib.hid (HB.out.trans (hb.mono hz))
  replace hz := Nat.le_trans hz hb.size
  have HZw32 := Lib.hid hb.size
  replace HOr4 := Lib.hid (HOr4.out.later hb)
  replace HOr7 := Lib.hid (HOr7.out.later hb)
  replace HOr9 := Lib.hid (HOr9.out.later hb)
  replace HOr12 := Lib.hid (HOr12.out.later hb)
  replace HOr15 := Lib.hid (HOr15.out.later hb)
  replace HOr17 := Lib.hid (HOr17.out.later hb)
  replace HOr21 := Lib.hid (HOr21.out.later hb)
  replace HOr25 := Lib.hid (HOr25.out.later hb)
  replace HA0 := Lib.hid (HA0.out.later hb)
  replace HA1 := Lib.hid (HA1.out.later hb)
  have HOr34 := Lib.hid ho
  have HUr34 := Lib.hid ho.block
  clear ho
  clear hb
  go_wp2_with fail
  refine (kit.toIntS_any a1 c1 L1 w32 (by omega) HA1.out).mono ?_
  rintro e w35 ⟨u36, rfl, ho, hb⟩
  obtain ⟨yr37, qr37, rfl⟩ := ho.shape
  replace HB := Lib.hid (HB.out.trans (hb.mono hz))
  replace hz := Nat.le_trans hz hb.size
  have HZw35 := Lib.hid hb.size
  replace HOr4 := Lib.hid (HOr4.out.later hb)
  replace HOr7 := Lib.hid (HOr7.out.later hb)
  replace HOr9 := Lib.hid (HOr9.out.later hb)
  replace HOr12 := Lib.hid (HOr12.out.later hb)
  replace HOr15 := Lib.hid (HOr15.out.later hb)
  replace HOr17 := Lib.hid (HOr17.out.later hb)
  replace HOr21 := Lib.hid (HOr21.out.later hb)
  replace HOr25 := Lib.hid (HOr25.out.later hb)
  replace HOr34 := Lib.hid (HOr34.out.later hb)
  replace HA0 := Lib.hid (HA0.out.later hb)
  replace HA1 := Lib.hid (HA1.out.later hb)
  have HOr37 := Lib.hid ho
  have HUr37 := Lib.hid ho.block
  clear ho
  clear hb
  go_wp2_with fail
  refine (kit.implRacksOf _ (.slice yr34 L0.length qr34) L0 _ (.slice yr37 L1.length qr37) L1 w35 (by omega) HOr34.out (by omega) HOr37.out).mono ?_
  rintro e w38 ⟨uI, he, hoI, hb⟩
  rw [HT1.out] at hoI
  obtain ⟨yr39, qr39, rfl⟩ := hoI.shape
  subst he
  replace HB := Lib.hid (HB.out.trans (hb.mono hz))
  replace hz := Nat.le_trans hz hb.size
  have HZw38 := Lib.hid hb.size
  replace HOr4 := Lib.hid (HOr4.out.later hb)
  replace HOr7 := Lib.hid (HOr7.out.later hb)
  replace HOr9 := Lib.hid (HOr9.out.later hb)
  replace HOr12 := Lib.hid (HOr12.out.later hb)
  replace HOr15 := Lib.hid (HOr15.out.later hb)
  replace HOr17 := Lib.hid (HOr17.out.later hb)
  replace HOr21 := Lib.hid (HOr21.out.later hb)
  replace HOr25 := Lib.hid (HOr25.out.later hb)
  replace HOr34 := Lib.hid (HOr34.out.later hb)
  replace HOr37 := Lib.hid (HOr37.out.later hb)
  replace HA0 := Lib.hid (HA0.out.later hb)
  replace HA1 := Lib.hid (HA1.out.later hb)
  have HOr39 := Lib.hid hoI
  have HUr39 := Lib.hid hoI.block
  clear hoI
  clear hb
  go_wp2_with fail
  refine (kit.eqIntSO _ _ (.slice yr39 T1.length qr39) (.slice yr9 T1.length qr9) T1 T1 w38 (by omega) (by omega) HOr39.out HOr9.out).mono ?_
  rintro e w40 ⟨he, hb⟩
  rw [decide_eq_true rfl] at he
  subst he
  replace HB := Lib.hid (HB.out.trans (hb.mono hz))
  replace hz := Nat.le_trans hz hb.size
  have HZw40 := Lib.hid hb.size
  replace HOr4 := Lib.hid (HOr4.out.later hb)
  replace HOr7 := Lib.hid (HOr7.out.later hb)
  replace HOr9 := Lib.hid (HOr9.out.later hb)
  replace HOr12 := Lib.hid (HOr12.out.later hb)
  replace HOr15 := Lib.hid (HOr15.out.later hb)
  replace HOr17 := Lib.hid (HOr17.out.later hb)
  replace HOr21 := Lib.hid (HOr21.out.later hb)
  replace HOr25 := Lib.hid (HOr25.out.later hb)
  replace HOr34 := Lib.hid (HOr34.out.later hb)
  replace HOr37 := Lib.hid (HOr37.out.later hb)
  replace HOr39 := Lib.hid (HOr39.out.later hb)
  replace HA0 := Lib.hid (HA0.out.later hb)
  replace HA1 := Lib.hid (HA1.out.later hb)
  clear hb
  go_wp2_with fail
  refine (kit.heldIntS _ 1 (T1.length) (.slice yr17 T1.length qr17) w40 (by omega) (by omega) (by omega) HOr17.out).mono ?_
  rintro e w41 ⟨rfl, rfl⟩
  go_wp2_with fail
  go_ret
  exact ⟨rfl, HB.out⟩
set_option maxRecDepth 100000 in
theorem lifted (os : Os) (started : os.Started) (H : Type) (enc : TypeId × Value → H) :
    ReturnsInHanded {} Try.checked os 6 .any (Rows.fnExactRacksOfSpec.pre6 enc Try.prog Try.f6 Rows.fnExactRacksOfRow.domain false) (Rows.fnExactRacksOfSpec.post enc Try.prog Try.f6 false true false false) := by
  refine returnsInHanded_of_change (C := Try.checked) kit.own started (by kernel_rfl) Try.func6
    (ChangeSpec.witness6 (enc := enc) (C := Try.checked) false ⟨#[], #[.slice none 0 0, .slice none 0 0], []⟩ 8 (by kernel_rfl) (by kernel_rfl) (by kernel_rfl) (by kernel_rfl)) ?_
  intro W base args ds gs before hval0 hW hcnd _
  have hval : ∀ (j : Nat) t v, Try.f6.params[j]? = some t → args[j]? = some v → Value.okWide Try.prog W .any base t v := hval0
  have hW' := hW
  obtain ⟨p, q, hA0, hV, rfl, hfz, hnd⟩ := hW
  have hA : DataW.TrodAll enc Try.prog W 0 (fun _ => true) true Try.f6.params.toList args.toList ds p := hA0
  rw [Try.params6] at hA hval
  obtain ⟨v0, vs0, d0, ds0, p0, q0, hargs, rfl, rfl, h0, r0⟩ := trodAll_cons hA
  obtain ⟨v1, vs1, d1, ds1, p1, q1, rfl, rfl, rfl, h1, r1⟩ := trodAll_cons r0
  obtain ⟨rfl, rfl, rfl⟩ := trodAll_nil r1
  obtain rfl : args = #[v0, v1] := by cases args; simp_all
  obtain ⟨rfl, rfl⟩ := trodVars_none hV
  have k0 := h0
  have lt0 : ∀ x ∈ p0, x.block < W.heap.size := by obtain ⟨m, hm⟩ := k0; exact DataW.trod_lt m _ _ _ hm
  obtain ⟨a0, len0, cap0, rfl⟩ := okWide_slice Try.underlying41 (hval 0 41 v0 rfl rfl)
  obtain ⟨a0', c0, L0, he0, wa0, wl0⟩ := kit.open_plaV h0 lt0 rfl
  injection he0 with he0a he0b he0c
  subst he0a he0b he0c
  obtain ⟨a1, len1, cap1, rfl⟩ := okWide_slice Try.underlying25 (hval 1 25 v1 rfl rfl)
  have k1 := h1
  have lt1 : ∀ x ∈ p1, x.block < W.heap.size := by obtain ⟨m, hm⟩ := k1; exact DataW.trod_lt m _ _ _ hm
  obtain ⟨z1, w1⟩ : ∃ zs, kit.IsRow .i64 W a1 len1 cap1 zs := by
    obtain ⟨fuel, hf⟩ := h1
    rcases open_ints Try.underlying25 Try.underlying3 (by kernel_rfl) hf with ⟨hcs, _⟩ | ⟨x, l, c, zs, hcs, _, hl, hm, hz, _, hcell, hwz⟩
    · simp [Value.cells] at hcs
      obtain ⟨rfl, rfl, rfl⟩ := hcs
      exact ⟨[], .inl ⟨rfl, rfl, rfl, rfl⟩⟩
    · simp [Value.cells] at hcs
      obtain ⟨rfl, rfl, rfl⟩ := hcs
      exact ⟨zs, .inr ⟨_, rfl, hl, hm, by simpa using hz, hcell, hwz⟩⟩
  obtain ⟨L1, hl1, wa1, wl1⟩ := kit.IsRow.listM w1
  subst hl1
  clear hA0 hval0
  refine (walk _ _ L0 _ _ L1 W wa0 wl0 wa1 wl1).mono fun e W' ⟨he, bel⟩ => ?_
  subst he
  exact ⟨_, rfl, _, _, _, [], _, [], hW', trodAll_mk1 (shut_bool Try.underlying4 _), (trodAll_cons_mk (Below.trod kit.laidOut (by kernel_rfl) (of_decide_eq_true (by kernel_rfl)) k0 bel lt0) (trodAll_cons_mk (Below.trod kit.laidOut (by kernel_rfl) (of_decide_eq_true (by kernel_rfl)) k1 bel lt1) trodAll_mk0)), rfl, bel.frame _, fun h => by cases h⟩

theorem proved : Rows.FnExactRacksOfSaid :=
  OpenClaim.holds_of_wide 6 Try.f6 rfl rfl rfl rfl rfl rfl rfl ⟨rfl, rfl, rfl, rfl, rfl⟩ rfl rfl rfl rfl rfl (by kernel_rfl) Try.func6 (by kernel_rfl)
    (of_decide_eq_true (by kernel_rfl)) (by unfold Func.isWrapper; first | (rw [if_pos (by decide +kernel)]; kernel_rfl) | (rw [if_neg (by decide +kernel)]; exact ⟨rfl, rfl⟩))
    (fun os started H enc _ => lifted os started H enc)
end Go.Proofs.Ytpdpejlcilnafaa.fnExactRacksOf
