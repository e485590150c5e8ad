/-
  impl's NewMachine returns the same machine as the specification's, in memory of its own: the law returns true and changes nothing that was there. No condition.
-/
import Derived.Test.YtnplbchdabfalaaS4New
import Derived.Deep.RegionWith
namespace Go.Proofs.Ytnplbchdabfalaa.fnExactNewMachine
open Go.ChangeShapes Go.WideShapes Go.ChangeAt Go.RowKit
set_option linter.unusedVariables false

set_option maxRecDepth 100000 in
set_option maxHeartbeats 16000000 in
theorem walk  (w : World)  :
    Calls Try.prog 4 #[] w fun e w' => e = .returned (.bool true) ∧ Below w.heap.size w w' := by
  have HB := Lib.hid (Below.refl w.heap.size w)
  have hz : w.heap.size ≤ w.heap.size := Nat.le_refl _
  go_enter Try.func4, Try.ntmps4
  go_wp2_with fail
  refine (kit.specNewMachine  w ).mono ?_
  rintro e w1 ⟨uI, uS, he, hoI, hoS, hb⟩
  generalize hT1 : kit.newO = T1 at hoI
  have lT1 : T1.length ≤ 4194304 := by rw [← hT1]; exact kit.newO_len
  have HT1 := Lib.hid hT1
  clear hT1
  generalize hT2 : kit.newS = T2 at hoS
  have lT2 : T2.length ≤ 4194304 := by rw [← hT2]; exact kit.newS_len
  have HT2 := Lib.hid hT2
  clear hT2
  obtain ⟨yr2, qr2, rfl⟩ := hoI.shape
  obtain ⟨yr3, qr3, rfl⟩ := hoS.shape
  subst he
  replace HB := Lib.hid (HB.out.trans (hb.mono hz))
  replace hz := Nat.le_trans hz hb.size
  have HZw1 := Lib.hid hb.size
  have HOr2 := Lib.hid hoI
  have HUr2 := Lib.hid hoI.block
  clear hoI
  have HOr3 := Lib.hid hoS
  have HUr3 := Lib.hid hoS.block
  clear hoS
  clear hb
  go_wp2_with fail
  obtain ⟨w4, hw4⟩ : ∃ W, W = w1.alloc (.cells #[.slice yr2 T1.length qr2, .slice yr3 T2.length qr3] 27) := ⟨_, rfl⟩
  rw [← hw4]
  obtain ⟨pw4, epw4⟩ : ∃ p, p = w1.heap.size := ⟨_, rfl⟩
  rw [← epw4]
  have Epw4 := Lib.hid epw4
  have epw4' := Epw4.out
  clear epw4
  have xpw4_0 : w4.cell? ⟨pw4, 0, none⟩ = some (.slice yr2 T1.length qr2) := by rw [hw4, epw4', World.cell?_alloc_at _ _ _ _ rfl]; rfl
  have xpw4_1 : w4.cell? ⟨pw4, 1, none⟩ = some (.slice yr3 T2.length qr3) := by rw [hw4, epw4', World.cell?_alloc_at _ _ _ _ rfl]; rfl
  have hpw4 : pw4 < w4.heap.size := by rw [hw4, epw4', World.size_alloc]; exact Nat.lt_succ_self _
  have hb : Below w1.heap.size w1 w4 := by rw [hw4]; exact (Below.refl _ _).alloc (Nat.le_refl _) _
  have Sw4 := Lib.hid (show w4.heap.size = w1.heap.size + 1 by rw [hw4, World.size_alloc])
  replace HB := Lib.hid (HB.out.trans (hb.mono hz))
  replace hz := Nat.le_trans hz hb.size
  have HZw4 := Lib.hid hb.size
  replace HOr2 := Lib.hid (HOr2.out.later hb)
  replace HOr3 := Lib.hid (HOr3.out.later hb)
  clear hb
  clear epw4' hw4
  refine (kit.implNewMachine  w4 ).mono ?_
  rintro e w5 ⟨uI, uS, he, hoI, hoS, hb⟩
  rw [HT1.out] at hoI
  rw [HT2.out] at hoS
  obtain ⟨yr6, qr6, rfl⟩ := hoI.shape
  obtain ⟨yr7, qr7, rfl⟩ := hoS.shape
  subst he
  replace xpw4_0 := (hb.cell (p := ⟨pw4, 0, none⟩) hpw4).trans xpw4_0
  replace xpw4_1 := (hb.cell (p := ⟨pw4, 1, none⟩) hpw4).trans xpw4_1
  replace hpw4 := Nat.lt_of_lt_of_le hpw4 hb.size
  replace HB := Lib.hid (HB.out.trans (hb.mono hz))
  replace hz := Nat.le_trans hz hb.size
  have HZw5 := Lib.hid hb.size
  replace HOr2 := Lib.hid (HOr2.out.later hb)
  replace HOr3 := Lib.hid (HOr3.out.later hb)
  have HOr6 := Lib.hid hoI
  have HUr6 := Lib.hid hoI.block
  clear hoI
  have HOr7 := Lib.hid hoS
  have HUr7 := Lib.hid hoS.block
  clear hoS
  clear hb
  go_wp2_with fail
  obtain ⟨w8, hw8⟩ : ∃ W, W = w5.alloc (.cells #[.slice yr6 T1.length qr6, .slice yr7 T2.length qr7] 27) := ⟨_, rfl⟩
  rw [← hw8]
  obtain ⟨pw8, epw8⟩ : ∃ p, p = w5.heap.size := ⟨_, rfl⟩
  rw [← epw8]
  have Epw8 := Lib.hid epw8
  have epw8' := Epw8.out
  clear epw8
  have xpw8_0 : w8.cell? ⟨pw8, 0, none⟩ = some (.slice yr6 T1.length qr6) := by rw [hw8, epw8', World.cell?_alloc_at _ _ _ _ rfl]; rfl
  have xpw8_1 : w8.cell? ⟨pw8, 1, none⟩ = some (.slice yr7 T2.length qr7) := by rw [hw8, epw8', World.cell?_alloc_at _ _ _ _ rfl]; rfl
  have hpw8 : pw8 < w8.heap.size := by rw [hw8, epw8', World.size_alloc]; exact Nat.lt_succ_self _
  have hb : Below w5.heap.size w5 w8 := by rw [hw8]; exact (Below.refl _ _).alloc (Nat.le_refl _) _
  have Sw8 := Lib.hid (show w8.heap.size = w5.heap.size + 1 by rw [hw8, World.size_alloc])
  replace xpw4_0 := (hb.cell (p := ⟨pw4, 0, none⟩) hpw4).trans xpw4_0
  replace xpw4_1 := (hb.cell (p := ⟨pw4, 1, none⟩) hpw4).trans xpw4_1
  replace hpw4 := Nat.lt_of_lt_of_le hpw4 hb.size
  replace HB := Lib.hid (HB.out.trans (hb.mono hz))
  replace hz := Nat.le_trans hz hb.size
  have HZw8 := Lib.hid hb.size
  replace HOr2 := Lib.hid (HOr2.out.later hb)
  replace HOr3 := Lib.hid (HOr3.out.later hb)
  replace HOr6 := Lib.hid (HOr6.out.later hb)
  replace HOr7 := Lib.hid (HOr7.out.later hb)
  clear hb
  clear epw8' hw8
  refine (kit.eqMachineO _ _ (.slice yr6 T1.length qr6) (.slice yr7 T2.length qr7) T1 T2 _ _ (.slice yr2 T1.length qr2) (.slice yr3 T2.length qr3) T1 T2 w8 (by omega) (by omega) HOr6.out HOr7.out (by omega) (by omega) HOr2.out HOr3.out).mono ?_
  rintro e w9 ⟨he, hb⟩
  rw [decide_eq_true ⟨rfl, rfl⟩] at he
  subst he
  replace xpw4_0 := (hb.cell (p := ⟨pw4, 0, none⟩) hpw4).trans xpw4_0
  replace xpw4_1 := (hb.cell (p := ⟨pw4, 1, none⟩) hpw4).trans xpw4_1
  replace hpw4 := Nat.lt_of_lt_of_le hpw4 hb.size
  replace xpw8_0 := (hb.cell (p := ⟨pw8, 0, none⟩) hpw8).trans xpw8_0
  replace xpw8_1 := (hb.cell (p := ⟨pw8, 1, none⟩) hpw8).trans xpw8_1
  replace hpw8 := Nat.lt_of_lt_of_le hpw8 hb.size
  replace HB := Lib.hid (HB.out.trans (hb.mono hz))
  replace hz := Nat.le_trans hz hb.size
  have HZw9 := Lib.hid hb.size
  replace HOr2 := Lib.hid (HOr2.out.later hb)
  replace HOr3 := Lib.hid (HOr3.out.later hb)
  replace HOr6 := Lib.hid (HOr6.out.later hb)
  replace HOr7 := Lib.hid (HOr7.out.later hb)
  clear hb
  go_wp2_with fail
  refine (kit.markMachine _ _ (.slice yr6 T1.length qr6) (.slice yr7 T2.length qr7) T1 T2 w9 (by omega) (by omega) HOr6.out HOr7.out 1 rfl).mono ?_
  rintro e w10 ⟨rfl, hoI, hoS, wa, wb, hA, hg1, hg2⟩
  have hap1 := kit.own_apart hoI hoS
  have hb : Below w.heap.size w9 w10 := ((hA.mono hz).grown hg1 (Nat.le_trans hz hA.size) (fun g h => by have := HUr6.out g h; have := HZw1.out; have := Epw4.out; have := Sw4.out; have := HZw4.out; have := HZw5.out; have := Epw8.out; have := Sw8.out; have := HZw8.out; have := HZw9.out; omega)).grown hg2 (Nat.le_trans hz (Nat.le_trans hA.size hg1.size)) (fun g h => by have := HUr7.out g h; have := HZw1.out; have := Epw4.out; have := Sw4.out; have := HZw4.out; have := HZw5.out; have := Epw8.out; have := Sw8.out; have := HZw8.out; have := HZw9.out; omega)
  have hs : w9.heap.size ≤ w10.heap.size := hb.size
  replace xpw4_0 := (World.cell?_of_block (a := ⟨pw4, 0, none⟩) (kit.still hA hg1 hg2 (b := pw4) hpw4 (fun e => by have := HUr6.out _ e; have := HZw1.out; have := Epw4.out; have := Sw4.out; have := HZw4.out; have := HZw5.out; have := Epw8.out; have := Sw8.out; have := HZw8.out; have := HZw9.out; omega) (fun e => by have := HUr7.out _ e; have := HZw1.out; have := Epw4.out; have := Sw4.out; have := HZw4.out; have := HZw5.out; have := Epw8.out; have := Sw8.out; have := HZw8.out; have := HZw9.out; omega))).trans xpw4_0
  replace xpw4_1 := (World.cell?_of_block (a := ⟨pw4, 1, none⟩) (kit.still hA hg1 hg2 (b := pw4) hpw4 (fun e => by have := HUr6.out _ e; have := HZw1.out; have := Epw4.out; have := Sw4.out; have := HZw4.out; have := HZw5.out; have := Epw8.out; have := Sw8.out; have := HZw8.out; have := HZw9.out; omega) (fun e => by have := HUr7.out _ e; have := HZw1.out; have := Epw4.out; have := Sw4.out; have := HZw4.out; have := HZw5.out; have := Epw8.out; have := Sw8.out; have := HZw8.out; have := HZw9.out; omega))).trans xpw4_1
  replace hpw4 := Nat.lt_of_lt_of_le hpw4 hs
  replace xpw8_0 := (World.cell?_of_block (a := ⟨pw8, 0, none⟩) (kit.still hA hg1 hg2 (b := pw8) hpw8 (fun e => by have := HUr6.out _ e; have := HZw1.out; have := Epw4.out; have := Sw4.out; have := HZw4.out; have := HZw5.out; have := Epw8.out; have := Sw8.out; have := HZw8.out; have := HZw9.out; omega) (fun e => by have := HUr7.out _ e; have := HZw1.out; have := Epw4.out; have := Sw4.out; have := HZw4.out; have := HZw5.out; have := Epw8.out; have := Sw8.out; have := HZw8.out; have := HZw9.out; omega))).trans xpw8_0
  replace xpw8_1 := (World.cell?_of_block (a := ⟨pw8, 1, none⟩) (kit.still hA hg1 hg2 (b := pw8) hpw8 (fun e => by have := HUr6.out _ e; have := HZw1.out; have := Epw4.out; have := Sw4.out; have := HZw4.out; have := HZw5.out; have := Epw8.out; have := Sw8.out; have := HZw8.out; have := HZw9.out; omega) (fun e => by have := HUr7.out _ e; have := HZw1.out; have := Epw4.out; have := Sw4.out; have := HZw4.out; have := HZw5.out; have := Epw8.out; have := Sw8.out; have := HZw8.out; have := HZw9.out; omega))).trans xpw8_1
  replace hpw8 := Nat.lt_of_lt_of_le hpw8 hs
  replace HOr2 := Lib.hid (((HOr2.out.later hA).marked hg1 (fun g a c => by have h3 := HUr6.out g a; have h4 := HUr2.out g c; have := HZw1.out; have := Epw4.out; have := Sw4.out; have := HZw4.out; have := HZw5.out; have := Epw8.out; have := Sw8.out; have := HZw8.out; have := HZw9.out; omega)).marked hg2 (fun g a c => by have h3 := HUr7.out g a; have h4 := HUr2.out g c; have := HZw1.out; have := Epw4.out; have := Sw4.out; have := HZw4.out; have := HZw5.out; have := Epw8.out; have := Sw8.out; have := HZw8.out; have := HZw9.out; omega))
  replace HOr3 := Lib.hid (((HOr3.out.later hA).marked hg1 (fun g a c => by have h3 := HUr6.out g a; have h4 := HUr3.out g c; have := HZw1.out; have := Epw4.out; have := Sw4.out; have := HZw4.out; have := HZw5.out; have := Epw8.out; have := Sw8.out; have := HZw8.out; have := HZw9.out; omega)).marked hg2 (fun g a c => by have h3 := HUr7.out g a; have h4 := HUr3.out g c; have := HZw1.out; have := Epw4.out; have := Sw4.out; have := HZw4.out; have := HZw5.out; have := Epw8.out; have := Sw8.out; have := HZw8.out; have := HZw9.out; omega))
  replace HB := Lib.hid (HB.out.trans hb)
  replace hz := Nat.le_trans hz hs
  have HZw10 := Lib.hid hs
  replace HOr6 := Lib.hid hoI
  replace HOr7 := Lib.hid hoS
  clear hap1 hb hs hA hg1 hg2 hoI hoS
  go_wp2_with fail
  refine (kit.heldMachine _ _ (.slice yr6 T1.length qr6) (.slice yr7 T2.length qr7) (T1.length) (T2.length) w10 (by omega) (by omega) HOr6.out HOr7.out 1 rfl).mono ?_
  rintro e w11 ⟨rfl, hb⟩
  replace xpw4_0 := (hb.cell (p := ⟨pw4, 0, none⟩) hpw4).trans xpw4_0
  replace xpw4_1 := (hb.cell (p := ⟨pw4, 1, none⟩) hpw4).trans xpw4_1
  replace hpw4 := Nat.lt_of_lt_of_le hpw4 hb.size
  replace xpw8_0 := (hb.cell (p := ⟨pw8, 0, none⟩) hpw8).trans xpw8_0
  replace xpw8_1 := (hb.cell (p := ⟨pw8, 1, none⟩) hpw8).trans xpw8_1
  replace hpw8 := Nat.lt_of_lt_of_le hpw8 hb.size
  replace HB := Lib.hid (HB.out.trans (hb.mono hz))
  replace hz := Nat.le_trans hz hb.size
  have HZw11 := Lib.hid hb.size
  replace HOr2 := Lib.hid (HOr2.out.later hb)
  replace HOr3 := Lib.hid (HOr3.out.later hb)
  replace HOr6 := Lib.hid (HOr6.out.later hb)
  replace HOr7 := Lib.hid (HOr7.out.later hb)
  clear hb
  go_wp2_with fail
  refine (kit.implNewMachine  w11 ).mono ?_
  rintro e w12 ⟨uI, uS, he, hoI, hoS, hb⟩
  rw [HT1.out] at hoI
  rw [HT2.out] at hoS
  obtain ⟨yr13, qr13, rfl⟩ := hoI.shape
  obtain ⟨yr14, qr14, rfl⟩ := hoS.shape
  subst he
  replace xpw4_0 := (hb.cell (p := ⟨pw4, 0, none⟩) hpw4).trans xpw4_0
  replace xpw4_1 := (hb.cell (p := ⟨pw4, 1, none⟩) hpw4).trans xpw4_1
  replace hpw4 := Nat.lt_of_lt_of_le hpw4 hb.size
  replace xpw8_0 := (hb.cell (p := ⟨pw8, 0, none⟩) hpw8).trans xpw8_0
  replace xpw8_1 := (hb.cell (p := ⟨pw8, 1, none⟩) hpw8).trans xpw8_1
  replace hpw8 := Nat.lt_of_lt_of_le hpw8 hb.size
  replace HB := Lib.hid (HB.out.trans (hb.mono hz))
  replace hz := Nat.le_trans hz hb.size
  have HZw12 := Lib.hid hb.size
  replace HOr2 := Lib.hid (HOr2.out.later hb)
  replace HOr3 := Lib.hid (HOr3.out.later hb)
  replace HOr6 := Lib.hid (HOr6.out.later hb)
  replace HOr7 := Lib.hid (HOr7.out.later hb)
  have HOr13 := Lib.hid hoI
  have HUr13 := Lib.hid hoI.block
  clear hoI
  have HOr14 := Lib.hid hoS
  have HUr14 := Lib.hid hoS.block
  clear hoS
  clear hb
  go_wp2_with fail
  obtain ⟨w15, hw15⟩ : ∃ W, W = w12.alloc (.cells #[.slice yr13 T1.length qr13, .slice yr14 T2.length qr14] 27) := ⟨_, rfl⟩
  rw [← hw15]
  obtain ⟨pw15, epw15⟩ : ∃ p, p = w12.heap.size := ⟨_, rfl⟩
  rw [← epw15]
  have Epw15 := Lib.hid epw15
  have epw15' := Epw15.out
  clear epw15
  have xpw15_0 : w15.cell? ⟨pw15, 0, none⟩ = some (.slice yr13 T1.length qr13) := by rw [hw15, epw15', World.cell?_alloc_at _ _ _ _ rfl]; rfl
  have xpw15_1 : w15.cell? ⟨pw15, 1, none⟩ = some (.slice yr14 T2.length qr14) := by rw [hw15, epw15', World.cell?_alloc_at _ _ _ _ rfl]; rfl
  have hpw15 : pw15 < w15.heap.size := by rw [hw15, epw15', World.size_alloc]; exact Nat.lt_succ_self _
  have hb : Below w12.heap.size w12 w15 := by rw [hw15]; exact (Below.refl _ _).alloc (Nat.le_refl _) _
  have Sw15 := Lib.hid (show w15.heap.size = w12.heap.size + 1 by rw [hw15, World.size_alloc])
  replace xpw4_0 := (hb.cell (p := ⟨pw4, 0, none⟩) hpw4).trans xpw4_0
  replace xpw4_1 := (hb.cell (p := ⟨pw4, 1, none⟩) hpw4).trans xpw4_1
  replace hpw4 := Nat.lt_of_lt_of_le hpw4 hb.size
  replace xpw8_0 := (hb.cell (p := ⟨pw8, 0, none⟩) hpw8).trans xpw8_0
  replace xpw8_1 := (hb.cell (p := ⟨pw8, 1, none⟩) hpw8).trans xpw8_1
  replace hpw8 := Nat.lt_of_lt_of_le hpw8 hb.size
  replace HB := Lib.hid (HB.out.trans (hb.mono hz))
  replace hz := Nat.le_trans hz hb.size
  have HZw15 := Lib.hid hb.size
  replace HOr2 := Lib.hid (HOr2.out.later hb)
  replace HOr3 := Lib.hid (HOr3.out.later hb)
  replace HOr6 := Lib.hid (HOr6.out.later hb)
  replace HOr7 := Lib.hid (HOr7.out.later hb)
  replace HOr13 := Lib.hid (HOr13.out.later hb)
  replace HOr14 := Lib.hid (HOr14.out.later hb)
  clear hb
  clear epw15' hw15
  refine (kit.eqMachineO _ _ (.slice yr13 T1.length qr13) (.slice yr14 T2.length qr14) T1 T2 _ _ (.slice yr2 T1.length qr2) (.slice yr3 T2.length qr3) T1 T2 w15 (by omega) (by omega) HOr13.out HOr14.out (by omega) (by omega) HOr2.out HOr3.out).mono ?_
  rintro e w16 ⟨he, hb⟩
  rw [decide_eq_true ⟨rfl, rfl⟩] at he
  subst he
  replace xpw4_0 := (hb.cell (p := ⟨pw4, 0, none⟩) hpw4).trans xpw4_0
  replace xpw4_1 := (hb.cell (p := ⟨pw4, 1, none⟩) hpw4).trans xpw4_1
  replace hpw4 := Nat.lt_of_lt_of_le hpw4 hb.size
  replace xpw8_0 := (hb.cell (p := ⟨pw8, 0, none⟩) hpw8).trans xpw8_0
  replace xpw8_1 := (hb.cell (p := ⟨pw8, 1, none⟩) hpw8).trans xpw8_1
  replace hpw8 := Nat.lt_of_lt_of_le hpw8 hb.size
  replace xpw15_0 := (hb.cell (p := ⟨pw15, 0, none⟩) hpw15).trans xpw15_0
  replace xpw15_1 := (hb.cell (p := ⟨pw15, 1, none⟩) hpw15).trans xpw15_1
  replace hpw15 := Nat.lt_of_lt_of_le hpw15 hb.size
  replace HB := Lib.hid (HB.out.trans (hb.mono hz))
  replace hz := Nat.le_trans hz hb.size
  have HZw16 := Lib.hid hb.size
  replace HOr2 := Lib.hid (HOr2.out.later hb)
  replace HOr3 := Lib.hid (HOr3.out.later hb)
  replace HOr6 := Lib.hid (HOr6.out.later hb)
  replace HOr7 := Lib.hid (HOr7.out.later hb)
  replace HOr13 := Lib.hid (HOr13.out.later hb)
  replace HOr14 := Lib.hid (HOr14.out.later hb)
  clear hb
  go_wp2_with fail
  refine (kit.heldMachine _ _ (.slice yr6 T1.length qr6) (.slice yr7 T2.length qr7) (T1.length) (T2.length) w16 (by omega) (by omega) HOr6.out HOr7.out 1 rfl).mono ?_
  rintro e w17 ⟨rfl, hb⟩
  replace xpw4_0 := (hb.cell (p := ⟨pw4, 0, none⟩) hpw4).trans xpw4_0
  replace xpw4_1 := (hb.cell (p := ⟨pw4, 1, none⟩) hpw4).trans xpw4_1
  replace hpw4 := Nat.lt_of_lt_of_le hpw4 hb.size
  replace xpw8_0 := (hb.cell (p := ⟨pw8, 0, none⟩) hpw8).trans xpw8_0
  replace xpw8_1 := (hb.cell (p := ⟨pw8, 1, none⟩) hpw8).trans xpw8_1
  replace hpw8 := Nat.lt_of_lt_of_le hpw8 hb.size
  replace xpw15_0 := (hb.cell (p := ⟨pw15, 0, none⟩) hpw15).trans xpw15_0
  replace xpw15_1 := (hb.cell (p := ⟨pw15, 1, none⟩) hpw15).trans xpw15_1
  replace hpw15 := Nat.lt_of_lt_of_le hpw15 hb.size
  replace HB := Lib.hid (HB.out.trans (hb.mono hz))
  replace hz := Nat.le_trans hz hb.size
  have HZw17 := Lib.hid hb.size
  replace HOr2 := Lib.hid (HOr2.out.later hb)
  replace HOr3 := Lib.hid (HOr3.out.later hb)
  replace HOr6 := Lib.hid (HOr6.out.later hb)
  replace HOr7 := Lib.hid (HOr7.out.later hb)
  replace HOr13 := Lib.hid (HOr13.out.later hb)
  replace HOr14 := Lib.hid (HOr14.out.later hb)
  clear hb
  go_wp2_with fail
  go_ret
  exact ⟨rfl, HB.out⟩
set_option maxRecDepth 100000 in
theorem lifted (os : Os) (started : os.Started) (H : Type) (enc : TypeId × Value → H) :
    ReturnsInHanded {} Try.checked os 4 .any (Rows.fnExactNewMachineSpec.pre6 enc Try.prog Try.f4 Rows.fnExactNewMachineRow.domain false) (Rows.fnExactNewMachineSpec.post enc Try.prog Try.f4 false true false false) := by
  refine returnsInHanded_of_change (C := Try.checked) kit.own started (by kernel_rfl) Try.func4
    (ChangeSpec.witness6 (enc := enc) (C := Try.checked) false ⟨#[], #[], []⟩ 8 (by kernel_rfl) (by kernel_rfl) (by kernel_rfl) (by kernel_rfl)) ?_
  intro W base args ds gs before hval0 hW hcnd _
  have hval : ∀ (j : Nat) t v, Try.f4.params[j]? = some t → args[j]? = some v → Value.okWide Try.prog W .any base t v := hval0
  have hW' := hW
  obtain ⟨p, q, hA0, hV, rfl, hfz, hnd⟩ := hW
  have hA : DataW.TrodAll enc Try.prog W 0 (fun _ => true) true Try.f4.params.toList args.toList ds p := hA0
  rw [Try.params4] at hA hval
  obtain ⟨hargs, rfl, rfl⟩ := trodAll_nil hA
  obtain rfl : args = #[] := by cases args; simp_all
  obtain ⟨rfl, rfl⟩ := trodVars_none hV
  clear hA0 hval0
  refine (walk  W ).mono fun e W' ⟨he, bel⟩ => ?_
  subst he
  exact ⟨_, rfl, _, _, _, [], _, [], hW', trodAll_mk1 (shut_bool Try.underlying4 _), trodAll_mk0, rfl, bel.frame _, fun h => by cases h⟩

theorem proved : Rows.FnExactNewMachineSaid :=
  OpenClaim.holds_of_wide 4 Try.f4 rfl rfl rfl rfl rfl rfl rfl ⟨rfl, rfl, rfl, rfl, rfl⟩ rfl rfl rfl rfl rfl (by kernel_rfl) Try.func4 (by kernel_rfl)
    (of_decide_eq_true (by kernel_rfl)) (by unfold Func.isWrapper; first | (rw [if_pos (by decide +kernel)]; kernel_rfl) | (rw [if_neg (by decide +kernel)]; exact ⟨rfl, rfl⟩))
    (fun os started H enc _ => lifted os started H enc)
end Go.Proofs.Ytnplbchdabfalaa.fnExactNewMachine
