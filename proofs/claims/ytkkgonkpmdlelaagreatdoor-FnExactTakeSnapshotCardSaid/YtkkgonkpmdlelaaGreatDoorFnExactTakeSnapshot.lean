/-
  For every []Entry (the law passes over those with more than 2^20 entries) and every int, impl's TakeSnapshot returns the same snapshot and bool as the specification's, in memory of its own, and leaves its argument as it was: the law returns true and changes nothing that was there. The card ties the library's listed tables to the program's text. No other condition.
-/
import Derived.Test.YtkkgonkpmdlelaaGreatDoorKitLaid
import Derived.Test.YtkkgonkpmdlelaaGreatDoorTakeAll
import Derived.Test.YtkkgonkpmdlelaaGreatDoorCards
import Derived.Test.YtkkgonkpmdlelaaGreatDoorTie
import Derived.Deep.RegionWith
import Derived.Deep.DeepCutAuto
namespace Go.Proofs.YtkkgonkpmdlelaaGreatDoor.fnExactTakeSnapshot
open Go.ChangeShapes Go.WideShapes Go.ChangeAt Go.RowKit
set_option linter.unusedVariables false
set_option linter.unusedSimpArgs false

set_option maxRecDepth 100000 in
set_option maxHeartbeats 16000000 in
theorem walk (a0 : Option Addr) (c0 : Nat) (L0 : List kit.Ent) (a1 : Int) (w : World) (wa0 : kit.AtE w a0 L0) (wl0 : L0.length ≤ maxLen) (w1 : (Lit.int .i64 a1).wf = true) (hT : kit.Tab w) :
    Calls Tryz.prog 5 #[.slice a0 L0.length c0, .int .i64 a1] w fun e w' => e = .returned (.bool true) ∧ Below w.heap.size w w' := by
  unfold maxLen at wl0
  have HA0' := Lib.hid (kit.atE_low wa0)
  have HA0 := Lib.hid wa0
  clear wa0
  have HB := Lib.hid (Below.refl w.heap.size w)
  have hz : w.heap.size ≤ w.heap.size := Nat.le_refl _
  go_enter Tryz.func5, Tryz.ntmps5
  go_wp2_with fail
  refine (kit.szEntryS a0 L0.length c0 (1048576) w (by omega) (by omega) (by omega)).mono ?_
  rintro e w1 ⟨rfl, hw⟩
  subst hw
  by_cases hs1 : ¬ (L0.length : Int) ≤ 1048576
  · rw [if_neg hs1]
    go_wp2_with fail
    go_ret
    exact ⟨rfl, HB.out⟩
  replace hs1 := Decidable.not_not.1 hs1
  rw [if_pos hs1]
  go_wp2_with fail
  refine (kit.toEntryS a0 c0 L0 w (by omega) HA0.out).mono ?_
  rintro e w2 ⟨u3, rfl, ho, hb⟩
  obtain ⟨yr4, qr4, rfl⟩ := ho.shape
  replace HB := Lib.hid (HB.out.trans (hb.mono hz))
  replace hz := Nat.le_trans hz hb.size
  have HZw2 := Lib.hid hb.size
  replace HA0 := Lib.hid (HA0.out.later hb)
  have HOr4 := Lib.hid ho
  have HUr4 := Lib.hid ho.block
  clear ho
  clear hb
  go_wp2_with fail
  refine (kit.specTakeSnapshot _ (.slice yr4 L0.length qr4) L0 a1 w2 (by omega) HOr4.out).mono ?_
  rintro e w5 ⟨uI, uS, he, hoI, hoS, hb⟩
  generalize hT1 : kit.tkO L0 a1 = T1 at hoI
  have lT1 : T1.length ≤ 4194304 := by rw [← hT1]; exact kit.tkO_len _ _
  have HT1 := Lib.hid hT1
  clear hT1
  generalize hT2 : kit.tkS L0 a1 = T2 at hoS
  have lT2 : T2.length ≤ 4194304 := by rw [← hT2]; exact kit.tkS_len _ _
  have HT2 := Lib.hid hT2
  clear hT2
  generalize hT3 : kit.tkX L0 a1 = T3 at he
  have HT3 := Lib.hid hT3
  clear hT3
  generalize hT4 : kit.tkY L0 a1 = T4 at he
  have HT4 := Lib.hid hT4
  clear hT4
  generalize hT5 : kit.tkB L0 a1 = T5 at he
  have HT5 := Lib.hid hT5
  clear hT5
  obtain ⟨yr6, qr6, rfl⟩ := hoI.shape
  obtain ⟨yr7, qr7, rfl⟩ := hoS.shape
  subst he
  replace HB := Lib.hid (HB.out.trans (hb.mono hz))
  replace hz := Nat.le_trans hz hb.size
  have HZw5 := Lib.hid hb.size
  replace HOr4 := Lib.hid (HOr4.out.later hb)
  replace HA0 := Lib.hid (HA0.out.later hb)
  have HOr6 := Lib.hid hoI
  have HUr6 := Lib.hid hoI.block
  clear hoI
  have HOr7 := Lib.hid hoS
  have HUr7 := Lib.hid hoS.block
  clear hoS
  clear hb
  go_wp2_with fail
  obtain ⟨w8, hw8⟩ : ∃ W, W = w5.alloc (.cells #[.int .i64 T3, .int .i64 T4, .slice yr6 T1.length qr6, .slice yr7 T2.length qr7] 32) := ⟨_, rfl⟩
  rw [← hw8]
  obtain ⟨pw8, epw8⟩ : ∃ p, p = w5.heap.size := ⟨_, rfl⟩
  rw [← epw8]
  have Epw8 := Lib.hid epw8
  have epw8' := Epw8.out
  clear epw8
  have xpw8_0 : w8.cell? ⟨pw8, 0, none⟩ = some (.int .i64 T3) := by rw [hw8, epw8', World.cell?_alloc_at _ _ _ _ rfl]; rfl
  have xpw8_1 : w8.cell? ⟨pw8, 1, none⟩ = some (.int .i64 T4) := by rw [hw8, epw8', World.cell?_alloc_at _ _ _ _ rfl]; rfl
  have xpw8_2 : w8.cell? ⟨pw8, 2, none⟩ = some (.slice yr6 T1.length qr6) := by rw [hw8, epw8', World.cell?_alloc_at _ _ _ _ rfl]; rfl
  have xpw8_3 : w8.cell? ⟨pw8, 3, none⟩ = some (.slice yr7 T2.length qr7) := by rw [hw8, epw8', World.cell?_alloc_at _ _ _ _ rfl]; rfl
  have hpw8 : pw8 < w8.heap.size := by rw [hw8, epw8', World.size_alloc]; exact Nat.lt_succ_self _
  have hb : Below w5.heap.size w5 w8 := by rw [hw8]; exact (Below.refl _ _).alloc (Nat.le_refl _) _
  have Sw8 := Lib.hid (show w8.heap.size = w5.heap.size + 1 by rw [hw8, World.size_alloc])
  replace HB := Lib.hid (HB.out.trans (hb.mono hz))
  replace hz := Nat.le_trans hz hb.size
  have HZw8 := Lib.hid hb.size
  replace HOr4 := Lib.hid (HOr4.out.later hb)
  replace HOr6 := Lib.hid (HOr6.out.later hb)
  replace HOr7 := Lib.hid (HOr7.out.later hb)
  replace HA0 := Lib.hid (HA0.out.later hb)
  clear hb
  clear epw8' hw8
  refine (kit.toEntryS a0 c0 L0 w8 (by omega) HA0.out).mono ?_
  rintro e w9 ⟨u10, rfl, ho, hb⟩
  obtain ⟨yr11, qr11, rfl⟩ := ho.shape
  replace xpw8_0 := (hb.cell (p := ⟨pw8, 0, none⟩) hpw8).trans xpw8_0
  replace xpw8_1 := (hb.cell (p := ⟨pw8, 1, none⟩) hpw8).trans xpw8_1
  replace xpw8_2 := (hb.cell (p := ⟨pw8, 2, none⟩) hpw8).trans xpw8_2
  replace xpw8_3 := (hb.cell (p := ⟨pw8, 3, none⟩) hpw8).trans xpw8_3
  replace hpw8 := Nat.lt_of_lt_of_le hpw8 hb.size
  replace HB := Lib.hid (HB.out.trans (hb.mono hz))
  replace hz := Nat.le_trans hz hb.size
  have HZw9 := Lib.hid hb.size
  replace HOr4 := Lib.hid (HOr4.out.later hb)
  replace HOr6 := Lib.hid (HOr6.out.later hb)
  replace HOr7 := Lib.hid (HOr7.out.later hb)
  replace HA0 := Lib.hid (HA0.out.later hb)
  have HOr11 := Lib.hid ho
  have HUr11 := Lib.hid ho.block
  clear ho
  clear hb
  go_wp2_with fail
  refine (kit.implTakeSnapshot _ (.slice yr11 L0.length qr11) L0 a1 w9 (by omega) HOr11.out (hT.below HB.out)).mono ?_
  rintro e w12 ⟨uI, uS, he, hoI, hoS, hb⟩
  rw [HT1.out] at hoI
  rw [HT2.out] at hoS
  rw [HT3.out] at he
  rw [HT4.out] at he
  rw [HT5.out] at he
  obtain ⟨yr13, qr13, rfl⟩ := hoI.shape
  obtain ⟨yr14, qr14, rfl⟩ := hoS.shape
  subst he
  replace xpw8_0 := (hb.cell (p := ⟨pw8, 0, none⟩) hpw8).trans xpw8_0
  replace xpw8_1 := (hb.cell (p := ⟨pw8, 1, none⟩) hpw8).trans xpw8_1
  replace xpw8_2 := (hb.cell (p := ⟨pw8, 2, none⟩) hpw8).trans xpw8_2
  replace xpw8_3 := (hb.cell (p := ⟨pw8, 3, none⟩) hpw8).trans xpw8_3
  replace hpw8 := Nat.lt_of_lt_of_le hpw8 hb.size
  replace HB := Lib.hid (HB.out.trans (hb.mono hz))
  replace hz := Nat.le_trans hz hb.size
  have HZw12 := Lib.hid hb.size
  replace HOr4 := Lib.hid (HOr4.out.later hb)
  replace HOr6 := Lib.hid (HOr6.out.later hb)
  replace HOr7 := Lib.hid (HOr7.out.later hb)
  replace HOr11 := Lib.hid (HOr11.out.later hb)
  replace HA0 := Lib.hid (HA0.out.later hb)
  have HOr13 := Lib.hid hoI
  have HUr13 := Lib.hid hoI.block
  clear hoI
  have HOr14 := Lib.hid hoS
  have HUr14 := Lib.hid hoS.block
  clear hoS
  clear hb
  go_wp2_with fail
  obtain ⟨w15, hw15⟩ : ∃ W, W = w12.alloc (.cells #[.int .i64 T3, .int .i64 T4, .slice yr13 T1.length qr13, .slice yr14 T2.length qr14] 32) := ⟨_, rfl⟩
  rw [← hw15]
  obtain ⟨pw15, epw15⟩ : ∃ p, p = w12.heap.size := ⟨_, rfl⟩
  rw [← epw15]
  have Epw15 := Lib.hid epw15
  have epw15' := Epw15.out
  clear epw15
  have xpw15_0 : w15.cell? ⟨pw15, 0, none⟩ = some (.int .i64 T3) := by rw [hw15, epw15', World.cell?_alloc_at _ _ _ _ rfl]; rfl
  have xpw15_1 : w15.cell? ⟨pw15, 1, none⟩ = some (.int .i64 T4) := by rw [hw15, epw15', World.cell?_alloc_at _ _ _ _ rfl]; rfl
  have xpw15_2 : w15.cell? ⟨pw15, 2, none⟩ = some (.slice yr13 T1.length qr13) := by rw [hw15, epw15', World.cell?_alloc_at _ _ _ _ rfl]; rfl
  have xpw15_3 : w15.cell? ⟨pw15, 3, none⟩ = some (.slice yr14 T2.length qr14) := by rw [hw15, epw15', World.cell?_alloc_at _ _ _ _ rfl]; rfl
  have hpw15 : pw15 < w15.heap.size := by rw [hw15, epw15', World.size_alloc]; exact Nat.lt_succ_self _
  have hb : Below w12.heap.size w12 w15 := by rw [hw15]; exact (Below.refl _ _).alloc (Nat.le_refl _) _
  have Sw15 := Lib.hid (show w15.heap.size = w12.heap.size + 1 by rw [hw15, World.size_alloc])
  replace xpw8_0 := (hb.cell (p := ⟨pw8, 0, none⟩) hpw8).trans xpw8_0
  replace xpw8_1 := (hb.cell (p := ⟨pw8, 1, none⟩) hpw8).trans xpw8_1
  replace xpw8_2 := (hb.cell (p := ⟨pw8, 2, none⟩) hpw8).trans xpw8_2
  replace xpw8_3 := (hb.cell (p := ⟨pw8, 3, none⟩) hpw8).trans xpw8_3
  replace hpw8 := Nat.lt_of_lt_of_le hpw8 hb.size
  replace HB := Lib.hid (HB.out.trans (hb.mono hz))
  replace hz := Nat.le_trans hz hb.size
  have HZw15 := Lib.hid hb.size
  replace HOr4 := Lib.hid (HOr4.out.later hb)
  replace HOr6 := Lib.hid (HOr6.out.later hb)
  replace HOr7 := Lib.hid (HOr7.out.later hb)
  replace HOr11 := Lib.hid (HOr11.out.later hb)
  replace HOr13 := Lib.hid (HOr13.out.later hb)
  replace HOr14 := Lib.hid (HOr14.out.later hb)
  replace HA0 := Lib.hid (HA0.out.later hb)
  clear hb
  clear epw15' hw15
  refine (kit.eqSnapshotO T3 T4 _ _ (.slice yr13 T1.length qr13) (.slice yr14 T2.length qr14) T1 T2 T3 T4 _ _ (.slice yr6 T1.length qr6) (.slice yr7 T2.length qr7) T1 T2 w15 (by omega) (by omega) HOr13.out HOr14.out (by omega) (by omega) HOr6.out HOr7.out).mono ?_
  rintro e w16 ⟨he, hb⟩
  rw [decide_eq_true ⟨rfl, rfl, rfl, rfl⟩] at he
  subst he
  replace xpw8_0 := (hb.cell (p := ⟨pw8, 0, none⟩) hpw8).trans xpw8_0
  replace xpw8_1 := (hb.cell (p := ⟨pw8, 1, none⟩) hpw8).trans xpw8_1
  replace xpw8_2 := (hb.cell (p := ⟨pw8, 2, none⟩) hpw8).trans xpw8_2
  replace xpw8_3 := (hb.cell (p := ⟨pw8, 3, none⟩) hpw8).trans xpw8_3
  replace hpw8 := Nat.lt_of_lt_of_le hpw8 hb.size
  replace xpw15_0 := (hb.cell (p := ⟨pw15, 0, none⟩) hpw15).trans xpw15_0
  replace xpw15_1 := (hb.cell (p := ⟨pw15, 1, none⟩) hpw15).trans xpw15_1
  replace xpw15_2 := (hb.cell (p := ⟨pw15, 2, none⟩) hpw15).trans xpw15_2
  replace xpw15_3 := (hb.cell (p := ⟨pw15, 3, none⟩) hpw15).trans xpw15_3
  replace hpw15 := Nat.lt_of_lt_of_le hpw15 hb.size
  replace HB := Lib.hid (HB.out.trans (hb.mono hz))
  replace hz := Nat.le_trans hz hb.size
  have HZw16 := Lib.hid hb.size
  replace HOr4 := Lib.hid (HOr4.out.later hb)
  replace HOr6 := Lib.hid (HOr6.out.later hb)
  replace HOr7 := Lib.hid (HOr7.out.later hb)
  replace HOr11 := Lib.hid (HOr11.out.later hb)
  replace HOr13 := Lib.hid (HOr13.out.later hb)
  replace HOr14 := Lib.hid (HOr14.out.later hb)
  replace HA0 := Lib.hid (HA0.out.later hb)
  clear hb
  go_wp2_with fail
  refine (kit.toEntryS a0 c0 L0 w16 (by omega) HA0.out).mono ?_
  rintro e w17 ⟨u18, rfl, ho, hb⟩
  obtain ⟨yr19, qr19, rfl⟩ := ho.shape
  replace xpw8_0 := (hb.cell (p := ⟨pw8, 0, none⟩) hpw8).trans xpw8_0
  replace xpw8_1 := (hb.cell (p := ⟨pw8, 1, none⟩) hpw8).trans xpw8_1
  replace xpw8_2 := (hb.cell (p := ⟨pw8, 2, none⟩) hpw8).trans xpw8_2
  replace xpw8_3 := (hb.cell (p := ⟨pw8, 3, none⟩) hpw8).trans xpw8_3
  replace hpw8 := Nat.lt_of_lt_of_le hpw8 hb.size
  replace xpw15_0 := (hb.cell (p := ⟨pw15, 0, none⟩) hpw15).trans xpw15_0
  replace xpw15_1 := (hb.cell (p := ⟨pw15, 1, none⟩) hpw15).trans xpw15_1
  replace xpw15_2 := (hb.cell (p := ⟨pw15, 2, none⟩) hpw15).trans xpw15_2
  replace xpw15_3 := (hb.cell (p := ⟨pw15, 3, none⟩) hpw15).trans xpw15_3
  replace hpw15 := Nat.lt_of_lt_of_le hpw15 hb.size
  replace HB := Lib.hid (HB.out.trans (hb.mono hz))
  replace hz := Nat.le_trans hz hb.size
  have HZw17 := Lib.hid hb.size
  replace HOr4 := Lib.hid (HOr4.out.later hb)
  replace HOr6 := Lib.hid (HOr6.out.later hb)
  replace HOr7 := Lib.hid (HOr7.out.later hb)
  replace HOr11 := Lib.hid (HOr11.out.later hb)
  replace HOr13 := Lib.hid (HOr13.out.later hb)
  replace HOr14 := Lib.hid (HOr14.out.later hb)
  replace HA0 := Lib.hid (HA0.out.later hb)
  have HOr19 := Lib.hid ho
  have HUr19 := Lib.hid ho.block
  clear ho
  clear hb
  go_wp2_with fail
  refine (kit.eqEntrySO _ _ (.slice yr11 L0.length qr11) (.slice yr19 L0.length qr19) L0 L0 w17 (by omega) (by omega) HOr11.out HOr19.out).mono ?_
  rintro e w20 ⟨he, hb⟩
  rw [decide_eq_true rfl] at he
  subst he
  replace xpw8_0 := (hb.cell (p := ⟨pw8, 0, none⟩) hpw8).trans xpw8_0
  replace xpw8_1 := (hb.cell (p := ⟨pw8, 1, none⟩) hpw8).trans xpw8_1
  replace xpw8_2 := (hb.cell (p := ⟨pw8, 2, none⟩) hpw8).trans xpw8_2
  replace xpw8_3 := (hb.cell (p := ⟨pw8, 3, none⟩) hpw8).trans xpw8_3
  replace hpw8 := Nat.lt_of_lt_of_le hpw8 hb.size
  replace xpw15_0 := (hb.cell (p := ⟨pw15, 0, none⟩) hpw15).trans xpw15_0
  replace xpw15_1 := (hb.cell (p := ⟨pw15, 1, none⟩) hpw15).trans xpw15_1
  replace xpw15_2 := (hb.cell (p := ⟨pw15, 2, none⟩) hpw15).trans xpw15_2
  replace xpw15_3 := (hb.cell (p := ⟨pw15, 3, none⟩) hpw15).trans xpw15_3
  replace hpw15 := Nat.lt_of_lt_of_le hpw15 hb.size
  replace HB := Lib.hid (HB.out.trans (hb.mono hz))
  replace hz := Nat.le_trans hz hb.size
  have HZw20 := Lib.hid hb.size
  replace HOr4 := Lib.hid (HOr4.out.later hb)
  replace HOr6 := Lib.hid (HOr6.out.later hb)
  replace HOr7 := Lib.hid (HOr7.out.later hb)
  replace HOr11 := Lib.hid (HOr11.out.later hb)
  replace HOr13 := Lib.hid (HOr13.out.later hb)
  replace HOr14 := Lib.hid (HOr14.out.later hb)
  replace HOr19 := Lib.hid (HOr19.out.later hb)
  replace HA0 := Lib.hid (HA0.out.later hb)
  clear hb
  go_wp2_with fail
  refine (kit.markEntryS _ 1 (.slice yr11 L0.length qr11) L0 w20 (by omega) (by omega) (by omega) HOr11.out).mono ?_
  rintro e w21 ⟨rfl, ho, hg1⟩
  have hb : Below w.heap.size w20 w21 := (Below.refl w.heap.size w20).grown hg1 hz (fun g h => by have := HUr11.out g h; have := HZw2.out; have := HZw5.out; have := Epw8.out; have := Sw8.out; have := HZw8.out; have := HZw9.out; have := HZw12.out; have := Epw15.out; have := Sw15.out; have := HZw15.out; have := HZw16.out; have := HZw17.out; have := HZw20.out; omega)
  have hs : w20.heap.size ≤ w21.heap.size := hb.size
  replace xpw8_0 := (World.cell?_of_block (a := ⟨pw8, 0, none⟩) (hg1.block pw8 hpw8 (fun e => by have := HUr11.out _ e.symm; have := HZw2.out; have := HZw5.out; have := Epw8.out; have := Sw8.out; have := HZw8.out; have := HZw9.out; have := HZw12.out; have := Epw15.out; have := Sw15.out; have := HZw15.out; have := HZw16.out; have := HZw17.out; have := HZw20.out; omega))).trans xpw8_0
  replace xpw8_1 := (World.cell?_of_block (a := ⟨pw8, 1, none⟩) (hg1.block pw8 hpw8 (fun e => by have := HUr11.out _ e.symm; have := HZw2.out; have := HZw5.out; have := Epw8.out; have := Sw8.out; have := HZw8.out; have := HZw9.out; have := HZw12.out; have := Epw15.out; have := Sw15.out; have := HZw15.out; have := HZw16.out; have := HZw17.out; have := HZw20.out; omega))).trans xpw8_1
  replace xpw8_2 := (World.cell?_of_block (a := ⟨pw8, 2, none⟩) (hg1.block pw8 hpw8 (fun e => by have := HUr11.out _ e.symm; have := HZw2.out; have := HZw5.out; have := Epw8.out; have := Sw8.out; have := HZw8.out; have := HZw9.out; have := HZw12.out; have := Epw15.out; have := Sw15.out; have := HZw15.out; have := HZw16.out; have := HZw17.out; have := HZw20.out; omega))).trans xpw8_2
  replace xpw8_3 := (World.cell?_of_block (a := ⟨pw8, 3, none⟩) (hg1.block pw8 hpw8 (fun e => by have := HUr11.out _ e.symm; have := HZw2.out; have := HZw5.out; have := Epw8.out; have := Sw8.out; have := HZw8.out; have := HZw9.out; have := HZw12.out; have := Epw15.out; have := Sw15.out; have := HZw15.out; have := HZw16.out; have := HZw17.out; have := HZw20.out; omega))).trans xpw8_3
  replace hpw8 := Nat.lt_of_lt_of_le hpw8 hs
  replace xpw15_0 := (World.cell?_of_block (a := ⟨pw15, 0, none⟩) (hg1.block pw15 hpw15 (fun e => by have := HUr11.out _ e.symm; have := HZw2.out; have := HZw5.out; have := Epw8.out; have := Sw8.out; have := HZw8.out; have := HZw9.out; have := HZw12.out; have := Epw15.out; have := Sw15.out; have := HZw15.out; have := HZw16.out; have := HZw17.out; have := HZw20.out; omega))).trans xpw15_0
  replace xpw15_1 := (World.cell?_of_block (a := ⟨pw15, 1, none⟩) (hg1.block pw15 hpw15 (fun e => by have := HUr11.out _ e.symm; have := HZw2.out; have := HZw5.out; have := Epw8.out; have := Sw8.out; have := HZw8.out; have := HZw9.out; have := HZw12.out; have := Epw15.out; have := Sw15.out; have := HZw15.out; have := HZw16.out; have := HZw17.out; have := HZw20.out; omega))).trans xpw15_1
  replace xpw15_2 := (World.cell?_of_block (a := ⟨pw15, 2, none⟩) (hg1.block pw15 hpw15 (fun e => by have := HUr11.out _ e.symm; have := HZw2.out; have := HZw5.out; have := Epw8.out; have := Sw8.out; have := HZw8.out; have := HZw9.out; have := HZw12.out; have := Epw15.out; have := Sw15.out; have := HZw15.out; have := HZw16.out; have := HZw17.out; have := HZw20.out; omega))).trans xpw15_2
  replace xpw15_3 := (World.cell?_of_block (a := ⟨pw15, 3, none⟩) (hg1.block pw15 hpw15 (fun e => by have := HUr11.out _ e.symm; have := HZw2.out; have := HZw5.out; have := Epw8.out; have := Sw8.out; have := HZw8.out; have := HZw9.out; have := HZw12.out; have := Epw15.out; have := Sw15.out; have := HZw15.out; have := HZw16.out; have := HZw17.out; have := HZw20.out; omega))).trans xpw15_3
  replace hpw15 := Nat.lt_of_lt_of_le hpw15 hs
  replace HOr4 := Lib.hid (HOr4.out.marked hg1 (fun g a c => by have h3 := HUr11.out g a; have h4 := HUr4.out g c; have := HZw2.out; have := HZw5.out; have := Epw8.out; have := Sw8.out; have := HZw8.out; have := HZw9.out; have := HZw12.out; have := Epw15.out; have := Sw15.out; have := HZw15.out; have := HZw16.out; have := HZw17.out; have := HZw20.out; omega))
  replace HOr6 := Lib.hid (HOr6.out.marked hg1 (fun g a c => by have h3 := HUr11.out g a; have h4 := HUr6.out g c; have := HZw2.out; have := HZw5.out; have := Epw8.out; have := Sw8.out; have := HZw8.out; have := HZw9.out; have := HZw12.out; have := Epw15.out; have := Sw15.out; have := HZw15.out; have := HZw16.out; have := HZw17.out; have := HZw20.out; omega))
  replace HOr7 := Lib.hid (HOr7.out.marked hg1 (fun g a c => by have h3 := HUr11.out g a; have h4 := HUr7.out g c; have := HZw2.out; have := HZw5.out; have := Epw8.out; have := Sw8.out; have := HZw8.out; have := HZw9.out; have := HZw12.out; have := Epw15.out; have := Sw15.out; have := HZw15.out; have := HZw16.out; have := HZw17.out; have := HZw20.out; omega))
  replace HOr13 := Lib.hid (HOr13.out.marked hg1 (fun g a c => by have h3 := HUr11.out g a; have h4 := HUr13.out g c; have := HZw2.out; have := HZw5.out; have := Epw8.out; have := Sw8.out; have := HZw8.out; have := HZw9.out; have := HZw12.out; have := Epw15.out; have := Sw15.out; have := HZw15.out; have := HZw16.out; have := HZw17.out; have := HZw20.out; omega))
  replace HOr14 := Lib.hid (HOr14.out.marked hg1 (fun g a c => by have h3 := HUr11.out g a; have h4 := HUr14.out g c; have := HZw2.out; have := HZw5.out; have := Epw8.out; have := Sw8.out; have := HZw8.out; have := HZw9.out; have := HZw12.out; have := Epw15.out; have := Sw15.out; have := HZw15.out; have := HZw16.out; have := HZw17.out; have := HZw20.out; omega))
  replace HOr19 := Lib.hid (HOr19.out.marked hg1 (fun g a c => by have h3 := HUr11.out g a; have h4 := HUr19.out g c; have := HZw2.out; have := HZw5.out; have := Epw8.out; have := Sw8.out; have := HZw8.out; have := HZw9.out; have := HZw12.out; have := Epw15.out; have := Sw15.out; have := HZw15.out; have := HZw16.out; have := HZw17.out; have := HZw20.out; omega))
  replace HA0 := Lib.hid (HA0.out.below hb (HA0'.out))
  replace HB := Lib.hid (HB.out.trans hb)
  replace hz := Nat.le_trans hz hs
  have HZw21 := Lib.hid hs
  replace HOr11 := Lib.hid ho
  clear hb hs hg1 ho
  go_wp2_with fail
  refine (kit.eqSnapshotO T3 T4 _ _ (.slice yr13 T1.length qr13) (.slice yr14 T2.length qr14) T1 T2 T3 T4 _ _ (.slice yr6 T1.length qr6) (.slice yr7 T2.length qr7) T1 T2 w21 (by omega) (by omega) HOr13.out HOr14.out (by omega) (by omega) HOr6.out HOr7.out).mono ?_
  rintro e w22 ⟨he, hb⟩
  rw [decide_eq_true ⟨rfl, rfl, rfl, rfl⟩] at he
  subst he
  replace xpw8_0 := (hb.cell (p := ⟨pw8, 0, none⟩) hpw8).trans xpw8_0
  replace xpw8_1 := (hb.cell (p := ⟨pw8, 1, none⟩) hpw8).trans xpw8_1
  replace xpw8_2 := (hb.cell (p := ⟨pw8, 2, none⟩) hpw8).trans xpw8_2
  replace xpw8_3 := (hb.cell (p := ⟨pw8, 3, none⟩) hpw8).trans xpw8_3
  replace hpw8 := Nat.lt_of_lt_of_le hpw8 hb.size
  replace xpw15_0 := (hb.cell (p := ⟨pw15, 0, none⟩) hpw15).trans xpw15_0
  replace xpw15_1 := (hb.cell (p := ⟨pw15, 1, none⟩) hpw15).trans xpw15_1
  replace xpw15_2 := (hb.cell (p := ⟨pw15, 2, none⟩) hpw15).trans xpw15_2
  replace xpw15_3 := (hb.cell (p := ⟨pw15, 3, none⟩) hpw15).trans xpw15_3
  replace hpw15 := Nat.lt_of_lt_of_le hpw15 hb.size
  replace HB := Lib.hid (HB.out.trans (hb.mono hz))
  replace hz := Nat.le_trans hz hb.size
  have HZw22 := Lib.hid hb.size
  replace HOr4 := Lib.hid (HOr4.out.later hb)
  replace HOr6 := Lib.hid (HOr6.out.later hb)
  replace HOr7 := Lib.hid (HOr7.out.later hb)
  replace HOr11 := Lib.hid (HOr11.out.later hb)
  replace HOr13 := Lib.hid (HOr13.out.later hb)
  replace HOr14 := Lib.hid (HOr14.out.later hb)
  replace HOr19 := Lib.hid (HOr19.out.later hb)
  replace HA0 := Lib.hid (HA0.out.later hb)
  clear hb
  go_wp2_with fail
  refine (kit.markSnapshot T3 T4 _ _ (.slice yr13 T1.length qr13) (.slice yr14 T2.length qr14) T1 T2 w22 (by omega) (by omega) HOr13.out HOr14.out 1 rfl).mono ?_
  rintro e w23 ⟨rfl, hoI, hoS, wa, wb, hA, hg1, hg2⟩
  have hap1 := kit.own_apart hoI hoS
  have hb : Below w.heap.size w22 w23 := ((hA.mono hz).grown hg1 (Nat.le_trans hz hA.size) (fun g h => by have := HUr13.out g h; have := HZw2.out; have := HZw5.out; have := Epw8.out; have := Sw8.out; have := HZw8.out; have := HZw9.out; have := HZw12.out; have := Epw15.out; have := Sw15.out; have := HZw15.out; have := HZw16.out; have := HZw17.out; have := HZw20.out; have := HZw21.out; have := HZw22.out; omega)).grown hg2 (Nat.le_trans hz (Nat.le_trans hA.size hg1.size)) (fun g h => by have := HUr14.out g h; have := HZw2.out; have := HZw5.out; have := Epw8.out; have := Sw8.out; have := HZw8.out; have := HZw9.out; have := HZw12.out; have := Epw15.out; have := Sw15.out; have := HZw15.out; have := HZw16.out; have := HZw17.out; have := HZw20.out; have := HZw21.out; have := HZw22.out; omega)
  have hs : w22.heap.size ≤ w23.heap.size := hb.size
  replace xpw8_0 := (World.cell?_of_block (a := ⟨pw8, 0, none⟩) (kit.still hA hg1 hg2 (b := pw8) hpw8 (fun e => by have := HUr13.out _ e; have := HZw2.out; have := HZw5.out; have := Epw8.out; have := Sw8.out; have := HZw8.out; have := HZw9.out; have := HZw12.out; have := Epw15.out; have := Sw15.out; have := HZw15.out; have := HZw16.out; have := HZw17.out; have := HZw20.out; have := HZw21.out; have := HZw22.out; omega) (fun e => by have := HUr14.out _ e; have := HZw2.out; have := HZw5.out; have := Epw8.out; have := Sw8.out; have := HZw8.out; have := HZw9.out; have := HZw12.out; have := Epw15.out; have := Sw15.out; have := HZw15.out; have := HZw16.out; have := HZw17.out; have := HZw20.out; have := HZw21.out; have := HZw22.out; omega))).trans xpw8_0
  replace xpw8_1 := (World.cell?_of_block (a := ⟨pw8, 1, none⟩) (kit.still hA hg1 hg2 (b := pw8) hpw8 (fun e => by have := HUr13.out _ e; have := HZw2.out; have := HZw5.out; have := Epw8.out; have := Sw8.out; have := HZw8.out; have := HZw9.out; have := HZw12.out; have := Epw15.out; have := Sw15.out; have := HZw15.out; have := HZw16.out; have := HZw17.out; have := HZw20.out; have := HZw21.out; have := HZw22.out; omega) (fun e => by have := HUr14.out _ e; have := HZw2.out; have := HZw5.out; have := Epw8.out; have := Sw8.out; have := HZw8.out; have := HZw9.out; have := HZw12.out; have := Epw15.out; have := Sw15.out; have := HZw15.out; have := HZw16.out; have := HZw17.out; have := HZw20.out; have := HZw21.out; have := HZw22.out; omega))).trans xpw8_1
  replace xpw8_2 := (World.cell?_of_block (a := ⟨pw8, 2, none⟩) (kit.still hA hg1 hg2 (b := pw8) hpw8 (fun e => by have := HUr13.out _ e; have := HZw2.out; have := HZw5.out; have := Epw8.out; have := Sw8.out; have := HZw8.out; have := HZw9.out; have := HZw12.out; have := Epw15.out; have := Sw15.out; have := HZw15.out; have := HZw16.out; have := HZw17.out; have := HZw20.out; have := HZw21.out; have := HZw22.out; omega) (fun e => by have := HUr14.out _ e; have := HZw2.out; have := HZw5.out; have := Epw8.out; have := Sw8.out; have := HZw8.out; have := HZw9.out; have := HZw12.out; have := Epw15.out; have := Sw15.out; have := HZw15.out; have := HZw16.out; have := HZw17.out; have := HZw20.out; have := HZw21.out; have := HZw22.out; omega))).trans xpw8_2
  replace xpw8_3 := (World.cell?_of_block (a := ⟨pw8, 3, none⟩) (kit.still hA hg1 hg2 (b := pw8) hpw8 (fun e => by have := HUr13.out _ e; have := HZw2.out; have := HZw5.out; have := Epw8.out; have := Sw8.out; have := HZw8.out; have := HZw9.out; have := HZw12.out; have := Epw15.out; have := Sw15.out; have := HZw15.out; have := HZw16.out; have := HZw17.out; have := HZw20.out; have := HZw21.out; have := HZw22.out; omega) (fun e => by have := HUr14.out _ e; have := HZw2.out; have := HZw5.out; have := Epw8.out; have := Sw8.out; have := HZw8.out; have := HZw9.out; have := HZw12.out; have := Epw15.out; have := Sw15.out; have := HZw15.out; have := HZw16.out; have := HZw17.out; have := HZw20.out; have := HZw21.out; have := HZw22.out; omega))).trans xpw8_3
  replace hpw8 := Nat.lt_of_lt_of_le hpw8 hs
  replace xpw15_0 := (World.cell?_of_block (a := ⟨pw15, 0, none⟩) (kit.still hA hg1 hg2 (b := pw15) hpw15 (fun e => by have := HUr13.out _ e; have := HZw2.out; have := HZw5.out; have := Epw8.out; have := Sw8.out; have := HZw8.out; have := HZw9.out; have := HZw12.out; have := Epw15.out; have := Sw15.out; have := HZw15.out; have := HZw16.out; have := HZw17.out; have := HZw20.out; have := HZw21.out; have := HZw22.out; omega) (fun e => by have := HUr14.out _ e; have := HZw2.out; have := HZw5.out; have := Epw8.out; have := Sw8.out; have := HZw8.out; have := HZw9.out; have := HZw12.out; have := Epw15.out; have := Sw15.out; have := HZw15.out; have := HZw16.out; have := HZw17.out; have := HZw20.out; have := HZw21.out; have := HZw22.out; omega))).trans xpw15_0
  replace xpw15_1 := (World.cell?_of_block (a := ⟨pw15, 1, none⟩) (kit.still hA hg1 hg2 (b := pw15) hpw15 (fun e => by have := HUr13.out _ e; have := HZw2.out; have := HZw5.out; have := Epw8.out; have := Sw8.out; have := HZw8.out; have := HZw9.out; have := HZw12.out; have := Epw15.out; have := Sw15.out; have := HZw15.out; have := HZw16.out; have := HZw17.out; have := HZw20.out; have := HZw21.out; have := HZw22.out; omega) (fun e => by have := HUr14.out _ e; have := HZw2.out; have := HZw5.out; have := Epw8.out; have := Sw8.out; have := HZw8.out; have := HZw9.out; have := HZw12.out; have := Epw15.out; have := Sw15.out; have := HZw15.out; have := HZw16.out; have := HZw17.out; have := HZw20.out; have := HZw21.out; have := HZw22.out; omega))).trans xpw15_1
  replace xpw15_2 := (World.cell?_of_block (a := ⟨pw15, 2, none⟩) (kit.still hA hg1 hg2 (b := pw15) hpw15 (fun e => by have := HUr13.out _ e; have := HZw2.out; have := HZw5.out; have := Epw8.out; have := Sw8.out; have := HZw8.out; have := HZw9.out; have := HZw12.out; have := Epw15.out; have := Sw15.out; have := HZw15.out; have := HZw16.out; have := HZw17.out; have := HZw20.out; have := HZw21.out; have := HZw22.out; omega) (fun e => by have := HUr14.out _ e; have := HZw2.out; have := HZw5.out; have := Epw8.out; have := Sw8.out; have := HZw8.out; have := HZw9.out; have := HZw12.out; have := Epw15.out; have := Sw15.out; have := HZw15.out; have := HZw16.out; have := HZw17.out; have := HZw20.out; have := HZw21.out; have := HZw22.out; omega))).trans xpw15_2
  replace xpw15_3 := (World.cell?_of_block (a := ⟨pw15, 3, none⟩) (kit.still hA hg1 hg2 (b := pw15) hpw15 (fun e => by have := HUr13.out _ e; have := HZw2.out; have := HZw5.out; have := Epw8.out; have := Sw8.out; have := HZw8.out; have := HZw9.out; have := HZw12.out; have := Epw15.out; have := Sw15.out; have := HZw15.out; have := HZw16.out; have := HZw17.out; have := HZw20.out; have := HZw21.out; have := HZw22.out; omega) (fun e => by have := HUr14.out _ e; have := HZw2.out; have := HZw5.out; have := Epw8.out; have := Sw8.out; have := HZw8.out; have := HZw9.out; have := HZw12.out; have := Epw15.out; have := Sw15.out; have := HZw15.out; have := HZw16.out; have := HZw17.out; have := HZw20.out; have := HZw21.out; have := HZw22.out; omega))).trans xpw15_3
  replace hpw15 := Nat.lt_of_lt_of_le hpw15 hs
  replace HOr4 := Lib.hid (((HOr4.out.later hA).marked hg1 (fun g a c => by have h3 := HUr13.out g a; have h4 := HUr4.out g c; have := HZw2.out; have := HZw5.out; have := Epw8.out; have := Sw8.out; have := HZw8.out; have := HZw9.out; have := HZw12.out; have := Epw15.out; have := Sw15.out; have := HZw15.out; have := HZw16.out; have := HZw17.out; have := HZw20.out; have := HZw21.out; have := HZw22.out; omega)).marked hg2 (fun g a c => by have h3 := HUr14.out g a; have h4 := HUr4.out g c; have := HZw2.out; have := HZw5.out; have := Epw8.out; have := Sw8.out; have := HZw8.out; have := HZw9.out; have := HZw12.out; have := Epw15.out; have := Sw15.out; have := HZw15.out; have := HZw16.out; have := HZw17.out; have := HZw20.out; have := HZw21.out; have := HZw22.out; omega))
  replace HOr6 := Lib.hid (((HOr6.out.later hA).marked hg1 (fun g a c => by have h3 := HUr13.out g a; have h4 := HUr6.out g c; have := HZw2.out; have := HZw5.out; have := Epw8.out; have := Sw8.out; have := HZw8.out; have := HZw9.out; have := HZw12.out; have := Epw15.out; have := Sw15.out; have := HZw15.out; have := HZw16.out; have := HZw17.out; have := HZw20.out; have := HZw21.out; have := HZw22.out; omega)).marked hg2 (fun g a c => by have h3 := HUr14.out g a; have h4 := HUr6.out g c; have := HZw2.out; have := HZw5.out; have := Epw8.out; have := Sw8.out; have := HZw8.out; have := HZw9.out; have := HZw12.out; have := Epw15.out; have := Sw15.out; have := HZw15.out; have := HZw16.out; have := HZw17.out; have := HZw20.out; have := HZw21.out; have := HZw22.out; omega))
  replace HOr7 := Lib.hid (((HOr7.out.later hA).marked hg1 (fun g a c => by have h3 := HUr13.out g a; have h4 := HUr7.out g c; have := HZw2.out; have := HZw5.out; have := Epw8.out; have := Sw8.out; have := HZw8.out; have := HZw9.out; have := HZw12.out; have := Epw15.out; have := Sw15.out; have := HZw15.out; have := HZw16.out; have := HZw17.out; have := HZw20.out; have := HZw21.out; have := HZw22.out; omega)).marked hg2 (fun g a c => by have h3 := HUr14.out g a; have h4 := HUr7.out g c; have := HZw2.out; have := HZw5.out; have := Epw8.out; have := Sw8.out; have := HZw8.out; have := HZw9.out; have := HZw12.out; have := Epw15.out; have := Sw15.out; have := HZw15.out; have := HZw16.out; have := HZw17.out; have := HZw20.out; have := HZw21.out; have := HZw22.out; omega))
  replace HOr11 := Lib.hid (((HOr11.out.later hA).marked hg1 (fun g a c => by have h3 := HUr13.out g a; have h4 := HUr11.out g c; have := HZw2.out; have := HZw5.out; have := Epw8.out; have := Sw8.out; have := HZw8.out; have := HZw9.out; have := HZw12.out; have := Epw15.out; have := Sw15.out; have := HZw15.out; have := HZw16.out; have := HZw17.out; have := HZw20.out; have := HZw21.out; have := HZw22.out; omega)).marked hg2 (fun g a c => by have h3 := HUr14.out g a; have h4 := HUr11.out g c; have := HZw2.out; have := HZw5.out; have := Epw8.out; have := Sw8.out; have := HZw8.out; have := HZw9.out; have := HZw12.out; have := Epw15.out; have := Sw15.out; have := HZw15.out; have := HZw16.out; have := HZw17.out; have := HZw20.out; have := HZw21.out; have := HZw22.out; omega))
  replace HOr19 := Lib.hid (((HOr19.out.later hA).marked hg1 (fun g a c => by have h3 := HUr13.out g a; have h4 := HUr19.out g c; have := HZw2.out; have := HZw5.out; have := Epw8.out; have := Sw8.out; have := HZw8.out; have := HZw9.out; have := HZw12.out; have := Epw15.out; have := Sw15.out; have := HZw15.out; have := HZw16.out; have := HZw17.out; have := HZw20.out; have := HZw21.out; have := HZw22.out; omega)).marked hg2 (fun g a c => by have h3 := HUr14.out g a; have h4 := HUr19.out g c; have := HZw2.out; have := HZw5.out; have := Epw8.out; have := Sw8.out; have := HZw8.out; have := HZw9.out; have := HZw12.out; have := Epw15.out; have := Sw15.out; have := HZw15.out; have := HZw16.out; have := HZw17.out; have := HZw20.out; have := HZw21.out; have := HZw22.out; omega))
  replace HA0 := Lib.hid (HA0.out.below hb (HA0'.out))
  replace HB := Lib.hid (HB.out.trans hb)
  replace hz := Nat.le_trans hz hs
  have HZw23 := Lib.hid hs
  replace HOr13 := Lib.hid hoI
  replace HOr14 := Lib.hid hoS
  clear hap1 hb hs hA hg1 hg2 hoI hoS
  go_wp2_with fail
  refine (kit.heldSnapshot T3 T4 _ _ (.slice yr13 T1.length qr13) (.slice yr14 T2.length qr14) (T1.length) (T2.length) w23 (by omega) (by omega) HOr13.out HOr14.out 1 rfl).mono ?_
  rintro e w24 ⟨rfl, hb⟩
  replace xpw8_0 := (hb.cell (p := ⟨pw8, 0, none⟩) hpw8).trans xpw8_0
  replace xpw8_1 := (hb.cell (p := ⟨pw8, 1, none⟩) hpw8).trans xpw8_1
  replace xpw8_2 := (hb.cell (p := ⟨pw8, 2, none⟩) hpw8).trans xpw8_2
  replace xpw8_3 := (hb.cell (p := ⟨pw8, 3, none⟩) hpw8).trans xpw8_3
  replace hpw8 := Nat.lt_of_lt_of_le hpw8 hb.size
  replace xpw15_0 := (hb.cell (p := ⟨pw15, 0, none⟩) hpw15).trans xpw15_0
  replace xpw15_1 := (hb.cell (p := ⟨pw15, 1, none⟩) hpw15).trans xpw15_1
  replace xpw15_2 := (hb.cell (p := ⟨pw15, 2, none⟩) hpw15).trans xpw15_2
  replace xpw15_3 := (hb.cell (p := ⟨pw15, 3, none⟩) hpw15).trans xpw15_3
  replace hpw15 := Nat.lt_of_lt_of_le hpw15 hb.size
  replace HB := Lib.hid (HB.out.trans (hb.mono hz))
  replace hz := Nat.le_trans hz hb.size
  have HZw24 := Lib.hid hb.size
  replace HOr4 := Lib.hid (HOr4.out.later hb)
  replace HOr6 := Lib.hid (HOr6.out.later hb)
  replace HOr7 := Lib.hid (HOr7.out.later hb)
  replace HOr11 := Lib.hid (HOr11.out.later hb)
  replace HOr13 := Lib.hid (HOr13.out.later hb)
  replace HOr14 := Lib.hid (HOr14.out.later hb)
  replace HOr19 := Lib.hid (HOr19.out.later hb)
  replace HA0 := Lib.hid (HA0.out.later hb)
  clear hb
  go_wp2_with fail
  refine (kit.toEntryS a0 c0 L0 w24 (by omega) HA0.out).mono ?_
  rintro e w25 ⟨u26, rfl, ho, hb⟩
  obtain ⟨yr27, qr27, rfl⟩ := ho.shape
  replace xpw8_0 := (hb.cell (p := ⟨pw8, 0, none⟩) hpw8).trans xpw8_0
  replace xpw8_1 := (hb.cell (p := ⟨pw8, 1, none⟩) hpw8).trans xpw8_1
  replace xpw8_2 := (hb.cell (p := ⟨pw8, 2, none⟩) hpw8).trans xpw8_2
  replace xpw8_3 := (hb.cell (p := ⟨pw8, 3, none⟩) hpw8).trans xpw8_3
  replace hpw8 := Nat.lt_of_lt_of_le hpw8 hb.size
  replace xpw15_0 := (hb.cell (p := ⟨pw15, 0, none⟩) hpw15).trans xpw15_0
  replace xpw15_1 := (hb.cell (p := ⟨pw15, 1, none⟩) hpw15).trans xpw15_1
  replace xpw15_2 := (hb.cell (p := ⟨pw15, 2, none⟩) hpw15).trans xpw15_2
  replace xpw15_3 := (hb.cell (p := ⟨pw15, 3, none⟩) hpw15).trans xpw15_3
  replace hpw15 := Nat.lt_of_lt_of_le hpw15 hb.size
  replace HB := Lib.hid (HB.out.trans (hb.mono hz))
  replace hz := Nat.le_trans hz hb.size
  have HZw25 := Lib.hid hb.size
  replace HOr4 := Lib.hid (HOr4.out.later hb)
  replace HOr6 := Lib.hid (HOr6.out.later hb)
  replace HOr7 := Lib.hid (HOr7.out.later hb)
  replace HOr11 := Lib.hid (HOr11.out.later hb)
  replace HOr13 := Lib.hid (HOr13.out.later hb)
  replace HOr14 := Lib.hid (HOr14.out.later hb)
  replace HOr19 := Lib.hid (HOr19.out.later hb)
  replace HA0 := Lib.hid (HA0.out.later hb)
  have HOr27 := Lib.hid ho
  have HUr27 := Lib.hid ho.block
  clear ho
  clear hb
  go_wp2_with fail
  refine (kit.implTakeSnapshot _ (.slice yr27 L0.length qr27) L0 a1 w25 (by omega) HOr27.out (hT.below HB.out)).mono ?_
  rintro e w28 ⟨uI, uS, he, hoI, hoS, hb⟩
  rw [HT1.out] at hoI
  rw [HT2.out] at hoS
  rw [HT3.out] at he
  rw [HT4.out] at he
  rw [HT5.out] at he
  obtain ⟨yr29, qr29, rfl⟩ := hoI.shape
  obtain ⟨yr30, qr30, rfl⟩ := hoS.shape
  subst he
  replace xpw8_0 := (hb.cell (p := ⟨pw8, 0, none⟩) hpw8).trans xpw8_0
  replace xpw8_1 := (hb.cell (p := ⟨pw8, 1, none⟩) hpw8).trans xpw8_1
  replace xpw8_2 := (hb.cell (p := ⟨pw8, 2, none⟩) hpw8).trans xpw8_2
  replace xpw8_3 := (hb.cell (p := ⟨pw8, 3, none⟩) hpw8).trans xpw8_3
  replace hpw8 := Nat.lt_of_lt_of_le hpw8 hb.size
  replace xpw15_0 := (hb.cell (p := ⟨pw15, 0, none⟩) hpw15).trans xpw15_0
  replace xpw15_1 := (hb.cell (p := ⟨pw15, 1, none⟩) hpw15).trans xpw15_1
  replace xpw15_2 := (hb.cell (p := ⟨pw15, 2, none⟩) hpw15).trans xpw15_2
  replace xpw15_3 := (hb.cell (p := ⟨pw15, 3, none⟩) hpw15).trans xpw15_3
  replace hpw15 := Nat.lt_of_lt_of_le hpw15 hb.size
  replace HB := Lib.hid (HB.out.trans (hb.mono hz))
  replace hz := Nat.le_trans hz hb.size
  have HZw28 := Lib.hid hb.size
  replace HOr4 := Lib.hid (HOr4.out.later hb)
  replace HOr6 := Lib.hid (HOr6.out.later hb)
  replace HOr7 := Lib.hid (HOr7.out.later hb)
  replace HOr11 := Lib.hid (HOr11.out.later hb)
  replace HOr13 := Lib.hid (HOr13.out.later hb)
  replace HOr14 := Lib.hid (HOr14.out.later hb)
  replace HOr19 := Lib.hid (HOr19.out.later hb)
  replace HOr27 := Lib.hid (HOr27.out.later hb)
  replace HA0 := Lib.hid (HA0.out.later hb)
  have HOr29 := Lib.hid hoI
  have HUr29 := Lib.hid hoI.block
  clear hoI
  have HOr30 := Lib.hid hoS
  have HUr30 := Lib.hid hoS.block
  clear hoS
  clear hb
  go_wp2_with fail
  obtain ⟨w31, hw31⟩ : ∃ W, W = w28.alloc (.cells #[.int .i64 T3, .int .i64 T4, .slice yr29 T1.length qr29, .slice yr30 T2.length qr30] 32) := ⟨_, rfl⟩
  rw [← hw31]
  obtain ⟨pw31, epw31⟩ : ∃ p, p = w28.heap.size := ⟨_, rfl⟩
  rw [← epw31]
  have Epw31 := Lib.hid epw31
  have epw31' := Epw31.out
  clear epw31
  have xpw31_0 : w31.cell? ⟨pw31, 0, none⟩ = some (.int .i64 T3) := by rw [hw31, epw31', World.cell?_alloc_at _ _ _ _ rfl]; rfl
  have xpw31_1 : w31.cell? ⟨pw31, 1, none⟩ = some (.int .i64 T4) := by rw [hw31, epw31', World.cell?_alloc_at _ _ _ _ rfl]; rfl
  have xpw31_2 : w31.cell? ⟨pw31, 2, none⟩ = some (.slice yr29 T1.length qr29) := by rw [hw31, epw31', World.cell?_alloc_at _ _ _ _ rfl]; rfl
  have xpw31_3 : w31.cell? ⟨pw31, 3, none⟩ = some (.slice yr30 T2.length qr30) := by rw [hw31, epw31', World.cell?_alloc_at _ _ _ _ rfl]; rfl
  have hpw31 : pw31 < w31.heap.size := by rw [hw31, epw31', World.size_alloc]; exact Nat.lt_succ_self _
  have hb : Below w28.heap.size w28 w31 := by rw [hw31]; exact (Below.refl _ _).alloc (Nat.le_refl _) _
  have Sw31 := Lib.hid (show w31.heap.size = w28.heap.size + 1 by rw [hw31, World.size_alloc])
  replace xpw8_0 := (hb.cell (p := ⟨pw8, 0, none⟩) hpw8).trans xpw8_0
  replace xpw8_1 := (hb.cell (p := ⟨pw8, 1, none⟩) hpw8).trans xpw8_1
  replace xpw8_2 := (hb.cell (p := ⟨pw8, 2, none⟩) hpw8).trans xpw8_2
  replace xpw8_3 := (hb.cell (p := ⟨pw8, 3, none⟩) hpw8).trans xpw8_3
  replace hpw8 := Nat.lt_of_lt_of_le hpw8 hb.size
  replace xpw15_0 := (hb.cell (p := ⟨pw15, 0, none⟩) hpw15).trans xpw15_0
  replace xpw15_1 := (hb.cell (p := ⟨pw15, 1, none⟩) hpw15).trans xpw15_1
  replace xpw15_2 := (hb.cell (p := ⟨pw15, 2, none⟩) hpw15).trans xpw15_2
  replace xpw15_3 := (hb.cell (p := ⟨pw15, 3, none⟩) hpw15).trans xpw15_3
  replace hpw15 := Nat.lt_of_lt_of_le hpw15 hb.size
  replace HB := Lib.hid (HB.out.trans (hb.mono hz))
  replace hz := Nat.le_trans hz hb.size
  have HZw31 := Lib.hid hb.size
  replace HOr4 := Lib.hid (HOr4.out.later hb)
  replace HOr6 := Lib.hid (HOr6.out.later hb)
  replace HOr7 := Lib.hid (HOr7.out.later hb)
  replace HOr11 := Lib.hid (HOr11.out.later hb)
  replace HOr13 := Lib.hid (HOr13.out.later hb)
  replace HOr14 := Lib.hid (HOr14.out.later hb)
  replace HOr19 := Lib.hid (HOr19.out.later hb)
  replace HOr27 := Lib.hid (HOr27.out.later hb)
  replace HOr29 := Lib.hid (HOr29.out.later hb)
  replace HOr30 := Lib.hid (HOr30.out.later hb)
  replace HA0 := Lib.hid (HA0.out.later hb)
  clear hb
  clear epw31' hw31
  refine (kit.eqSnapshotO T3 T4 _ _ (.slice yr29 T1.length qr29) (.slice yr30 T2.length qr30) T1 T2 T3 T4 _ _ (.slice yr6 T1.length qr6) (.slice yr7 T2.length qr7) T1 T2 w31 (by omega) (by omega) HOr29.out HOr30.out (by omega) (by omega) HOr6.out HOr7.out).mono ?_
  rintro e w32 ⟨he, hb⟩
  rw [decide_eq_true ⟨rfl, rfl, rfl, rfl⟩] at he
  subst he
  replace xpw8_0 := (hb.cell (p := ⟨pw8, 0, none⟩) hpw8).trans xpw8_0
  replace xpw8_1 := (hb.cell (p := ⟨pw8, 1, none⟩) hpw8).trans xpw8_1
  replace xpw8_2 := (hb.cell (p := ⟨pw8, 2, none⟩) hpw8).trans xpw8_2
  replace xpw8_3 := (hb.cell (p := ⟨pw8, 3, none⟩) hpw8).trans xpw8_3
  replace hpw8 := Nat.lt_of_lt_of_le hpw8 hb.size
  replace xpw15_0 := (hb.cell (p := ⟨pw15, 0, none⟩) hpw15).trans xpw15_0
  replace xpw15_1 := (hb.cell (p := ⟨pw15, 1, none⟩) hpw15).trans xpw15_1
  replace xpw15_2 := (hb.cell (p := ⟨pw15, 2, none⟩) hpw15).trans xpw15_2
  replace xpw15_3 := (hb.cell (p := ⟨pw15, 3, none⟩) hpw15).trans xpw15_3
  replace hpw15 := Nat.lt_of_lt_of_le hpw15 hb.size
  replace xpw31_0 := (hb.cell (p := ⟨pw31, 0, none⟩) hpw31).trans xpw31_0
  replace xpw31_1 := (hb.cell (p := ⟨pw31, 1, none⟩) hpw31).trans xpw31_1
  replace xpw31_2 := (hb.cell (p := ⟨pw31, 2, none⟩) hpw31).trans xpw31_2
  replace xpw31_3 := (hb.cell (p := ⟨pw31, 3, none⟩) hpw31).trans xpw31_3
  replace hpw31 := Nat.lt_of_lt_of_le hpw31 hb.size
  replace HB := Lib.hid (HB.out.trans (hb.mono hz))
  replace hz := Nat.le_trans hz hb.size
  have HZw32 := Lib.hid hb.size
  replace HOr4 := Lib.hid (HOr4.out.later hb)
  replace HOr6 := Lib.hid (HOr6.out.later hb)
  replace HOr7 := Lib.hid (HOr7.out.later hb)
  replace HOr11 := Lib.hid (HOr11.out.later hb)
  replace HOr13 := Lib.hid (HOr13.out.later hb)
  replace HOr14 := Lib.hid (HOr14.out.later hb)
  replace HOr19 := Lib.hid (HOr19.out.later hb)
  replace HOr27 := Lib.hid (HOr27.out.later hb)
  replace HOr29 := Lib.hid (HOr29.out.later hb)
  replace HOr30 := Lib.hid (HOr30.out.later hb)
  replace HA0 := Lib.hid (HA0.out.later hb)
  clear hb
  go_wp2_with fail
  refine (kit.heldSnapshot T3 T4 _ _ (.slice yr13 T1.length qr13) (.slice yr14 T2.length qr14) (T1.length) (T2.length) w32 (by omega) (by omega) HOr13.out HOr14.out 1 rfl).mono ?_
  rintro e w33 ⟨rfl, hb⟩
  replace xpw8_0 := (hb.cell (p := ⟨pw8, 0, none⟩) hpw8).trans xpw8_0
  replace xpw8_1 := (hb.cell (p := ⟨pw8, 1, none⟩) hpw8).trans xpw8_1
  replace xpw8_2 := (hb.cell (p := ⟨pw8, 2, none⟩) hpw8).trans xpw8_2
  replace xpw8_3 := (hb.cell (p := ⟨pw8, 3, none⟩) hpw8).trans xpw8_3
  replace hpw8 := Nat.lt_of_lt_of_le hpw8 hb.size
  replace xpw15_0 := (hb.cell (p := ⟨pw15, 0, none⟩) hpw15).trans xpw15_0
  replace xpw15_1 := (hb.cell (p := ⟨pw15, 1, none⟩) hpw15).trans xpw15_1
  replace xpw15_2 := (hb.cell (p := ⟨pw15, 2, none⟩) hpw15).trans xpw15_2
  replace xpw15_3 := (hb.cell (p := ⟨pw15, 3, none⟩) hpw15).trans xpw15_3
  replace hpw15 := Nat.lt_of_lt_of_le hpw15 hb.size
  replace xpw31_0 := (hb.cell (p := ⟨pw31, 0, none⟩) hpw31).trans xpw31_0
  replace xpw31_1 := (hb.cell (p := ⟨pw31, 1, none⟩) hpw31).trans xpw31_1
  replace xpw31_2 := (hb.cell (p := ⟨pw31, 2, none⟩) hpw31).trans xpw31_2
  replace xpw31_3 := (hb.cell (p := ⟨pw31, 3, none⟩) hpw31).trans xpw31_3
  replace hpw31 := Nat.lt_of_lt_of_le hpw31 hb.size
  replace HB := Lib.hid (HB.out.trans (hb.mono hz))
  replace hz := Nat.le_trans hz hb.size
  have HZw33 := Lib.hid hb.size
  replace HOr4 := Lib.hid (HOr4.out.later hb)
  replace HOr6 := Lib.hid (HOr6.out.later hb)
  replace HOr7 := Lib.hid (HOr7.out.later hb)
  replace HOr11 := Lib.hid (HOr11.out.later hb)
  replace HOr13 := Lib.hid (HOr13.out.later hb)
  replace HOr14 := Lib.hid (HOr14.out.later hb)
  replace HOr19 := Lib.hid (HOr19.out.later hb)
  replace HOr27 := Lib.hid (HOr27.out.later hb)
  replace HOr29 := Lib.hid (HOr29.out.later hb)
  replace HOr30 := Lib.hid (HOr30.out.later hb)
  replace HA0 := Lib.hid (HA0.out.later hb)
  clear hb
  go_wp2_with fail
  go_ret
  exact ⟨rfl, HB.out⟩
set_option maxRecDepth 100000 in
theorem contract (H : Type) (enc : TypeId × Value → H) (W : World) (base : Nat) (args : Array Value) (ds gs : List (DataW H)) (before : List MemPlace)
    (hval0 : ∀ (j : Nat) t v, Tryz.f5.params[j]? = some t → args[j]? = some v → Value.okWide Tryz.prog W .any base t v)
    (hW : DataW.Whole enc Tryz.prog Tryz.f5.params.toList Rows.fnExactTakeSnapshotSpec.vars false W args.toList ds gs before) (hL : laidMetH Tryz.prog Rows.fnExactTakeSnapshotRow.laid W) :
    Calls Tryz.prog 5 args W fun e W' => ∃ v, e = .returned v ∧ Rows.fnExactTakeSnapshotSpec.post enc Tryz.prog Tryz.f5 false true false false W args v W' := by
  have hT : kit.Tab W := kit.tab_of_laid (by kernel_rfl) hL
  have hval : ∀ (j : Nat) t v, Tryz.f5.params[j]? = some t → args[j]? = some v → Value.okWide Tryz.prog W .any base t v := hval0
  have hW' := hW
  obtain ⟨p, q, hA0, hV, rfl, hfz, hnd⟩ := hW
  have hA : DataW.TrodAll enc Tryz.prog W 0 (fun _ => true) true Tryz.f5.params.toList args.toList ds p := hA0
  rw [Tryz.params5] at hA hval
  obtain ⟨v0, vs0, d0, ds0, p0, q0, hargs, rfl, rfl, h0, r0⟩ := trodAll_cons hA
  obtain ⟨v1, vs1, d1, ds1, p1, q1, rfl, rfl, rfl, h1, r1⟩ := trodAll_cons r0
  obtain ⟨rfl, rfl, rfl⟩ := trodAll_nil r1
  obtain rfl : args = #[v0, v1] := by cases args; simp_all
  obtain ⟨rfl, rfl⟩ := trodVars_none hV
  have k0 := h0
  have lt0 : ∀ x ∈ p0, x.block < W.heap.size := by obtain ⟨m, hm⟩ := k0; exact DataW.trod_lt m _ _ _ hm
  obtain ⟨a0, len0, cap0, rfl⟩ := okWide_slice Tryz.underlying53 (hval 0 53 v0 rfl rfl)
  obtain ⟨a0', c0, L0, he0, wa0, wl0⟩ := kit.open_entV h0 lt0 rfl
  injection he0 with he0a he0b he0c
  subst he0a he0b he0c
  obtain ⟨a1, rfl, rfl, rfl, w1⟩ := open_int Tryz.underlying3 (hval 1 3 v1 rfl rfl) h1
  clear hA0 hval0
  refine (walk _ _ L0 a1 W wa0 wl0 w1 hT).mono fun e W' ⟨he, bel⟩ => ?_
  subst he
  exact ⟨_, rfl, _, _, _, [], _, [], hW', trodAll_mk1 (shut_bool Tryz.underlying4 _), (trodAll_cons_mk (Below.trod kit.laidOut (by kernel_rfl) (of_decide_eq_true (by kernel_rfl)) k0 bel lt0) (trodAll_cons_mk (shut_int Tryz.underlying3 w1) trodAll_mk0)), rfl, bel.frame _, fun h => by cases h⟩

noncomputable def laidWorld (os : Os) : World :=
  { World.holding Tryz.prog os ⟨#[], #[], []⟩ with heap := (kit.laidCells (kit.laidCells (kit.laidCells (World.holding Tryz.prog os ⟨#[], #[], []⟩).heap 7 Rows.laid_math_bits_deBruijn32tab) 8 Rows.laid_math_bits_deBruijn64tab) 4 Rows.laid_internal_strconv_uint64pow10) }
theorem laid_met (os : Os) : laidMet Tryz.prog Rows.fnExactTakeSnapshotRow.laid ((laidWorld os).forCall (fun _ _ => 0) ⟨#[], #[.slice none 0 0, .int .i64 0], []⟩).memory :=
  laidMet_of_run' 8 (by kernel_rfl) (by kernel_rfl)
theorem reads (os : Os) {H : Type} (enc : TypeId × Value → H) : ∃ places, DataW.whole enc Tryz.prog ((laidWorld os).forCall (fun _ _ => 0) ⟨#[], #[.slice none 0 0, .int .i64 0], []⟩).memory Tryz.f5.params.toList Rows.fnExactTakeSnapshotSpec.vars false (#[.slice none 0 0, .int .i64 0] : Array Value).toList 8 = some ([.nil, .lit (.int .i64 0)], [], places) :=
  ⟨[], by kernel_rfl⟩
set_option maxRecDepth 100000 in
theorem lifted (os : Os) (started : os.Started) (H : Type) (enc : TypeId × Value → H) (F : Stop.Interp) :
    ReturnsInHanded {} Tryz.checked os 5 .any ((OpenSpec.ofChange Rows.fnExactTakeSnapshotSpec).preRow enc Tryz.prog Tryz.f5 Rows.fnExactTakeSnapshotRow.domain false Rows.fnExactTakeSnapshotRow.laid) (((OpenSpec.ofChange Rows.fnExactTakeSnapshotSpec).at F).post enc Tryz.prog Tryz.f5 false true false false) := by
  obtain ⟨places, hx⟩ := reads os enc
  refine returnsInHanded_of_row (C := Tryz.checked) (s := OpenSpec.ofChange Rows.fnExactTakeSnapshotSpec) kit.own started (by kernel_rfl) Tryz.func5
    (witness_row_at (enc := enc) (C := Tryz.checked) false (laidWorld os) #[.slice none 0 0, .int .i64 0] rfl (by kernel_rfl) (by kernel_rfl) (by kernel_rfl)
      (OpenSpec.preRow_of_cond 8 hx (by kernel_rfl) (fun k hk => by cases hk) (by kernel_rfl) (laid_met os))) ?_
  intro W base args ds gs before hval hW _ _ _ hL _ _
  exact contract H enc W base args ds gs before hval hW hL
theorem said : Rows.FnExactTakeSnapshotSaid :=
  OpenClaim.holds_of_cond 5 Tryz.f5 rfl rfl rfl rfl rfl rfl rfl ⟨rfl, rfl, rfl, rfl, rfl⟩ rfl rfl rfl rfl rfl (by kernel_rfl) Tryz.func5 (by kernel_rfl)
    (of_decide_eq_true (by kernel_rfl)) (by unfold Func.isWrapper; first | (rw [if_pos (by decide +kernel)]; kernel_rfl) | (rw [if_neg (by decide +kernel)]; exact ⟨rfl, rfl⟩))
    (fun os started H enc _ F => by rw [OpenClaim.pre_eq_preRow]; exact lifted os started H enc F)
theorem plain (f : FuncId) (fn : Func) (hf : Tryz.pinned.checked.prog.funcNamed "loop.example/g01926/laws.FnExactTakeSnapshot" = some f) (hfn : Tryz.pinned.checked.prog.funcs[f]? = some fn) :
    true = Tryz.pinned.checked.prog.looks [] ∧ ∀ (j : Nat) t, fn.params[j]? = some t → Tryz.pinned.checked.prog.wantsStandIn t = false := by
  obtain rfl : f = 5 := Option.some.inj ((show Tryz.prog.funcNamed "loop.example/g01926/laws.FnExactTakeSnapshot" = some 5 by kernel_rfl).symm.trans hf) |>.symm
  obtain rfl : fn = Tryz.f5 := (Option.some.inj (Tryz.func5.symm.trans hfn)).symm
  refine ⟨by kernel_rfl, fun j t ht => ?_⟩
  rw [Tryz.params5] at ht
  have hm := Array.mem_of_getElem? ht
  have hall : ∀ t ∈ (#[53, 3] : Array TypeId), Tryz.prog.wantsStandIn t = false := by
    intro t ht
    simp only [List.mem_toArray, List.mem_cons, List.not_mem_nil, or_false] at ht
    rcases ht with rfl | rfl
    · exact (show Tryz.prog.wantsStandIn 53 = false by kernel_rfl)
    · exact (show Tryz.prog.wantsStandIn 3 = false by kernel_rfl)
  exact hall t hm
theorem proved : Rows.FnExactTakeSnapshotCardSaid :=
  Claim7.holds_tied_plain_at .later [] _ _ _ _ said (fun _ h => by cases h) (by kernel_rfl) (fun _ h => by cases h) fnExactTakeSnapshot_row_tie rfl ⟨rfl, rfl⟩ (by kernel_rfl) rfl plain (by kernel_rfl)
end Go.Proofs.YtkkgonkpmdlelaaGreatDoor.fnExactTakeSnapshot
