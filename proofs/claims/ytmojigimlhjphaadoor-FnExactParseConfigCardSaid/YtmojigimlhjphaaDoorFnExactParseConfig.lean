/-
  For every string (the law passes over those with more than 2^20 bytes), impl's ParseConfig returns the same Config and bool as the specification's, in memory of its own: the law returns true and changes nothing that was there. The card ties the library's listed tables to the program's text. No condition.
-/
import Derived.Test.YtmojigimlhjphaaDoorS8ParseI
import Derived.Test.YtmojigimlhjphaaDoorS8ParseS
import Derived.Deep.RegionWith
import Derived.Deep.DeepCutAuto
import Derived.Test.YtmojigimlhjphaaDoorKitLaid
import Derived.Test.YtmojigimlhjphaaDoorCards
import Derived.Test.YtmojigimlhjphaaDoorTie
namespace Go.Proofs.YtmojigimlhjphaaDoor.fnExactParseConfig
open Go.ChangeShapes Go.WideShapes Go.ChangeAt Go.RowKit
open Go.ChangeMaps (open_string shut_string)
set_option linter.unusedVariables false

set_option maxRecDepth 100000 in
set_option maxHeartbeats 16000000 in
theorem walk (a0 : ByteArray) (w : World) (w0 : a0.size ≤ maxLen) (hT : kit.Tab w) (hM : kit.Mx w) :
    Calls Tryd.prog 4 #[.string a0] w fun e w' => e = .returned (.bool true) ∧ Below w.heap.size w w' := by
  unfold maxLen at w0
  have HB := Lib.hid (Below.refl w.heap.size w)
  have hz : w.heap.size ≤ w.heap.size := Nat.le_refl _
  by_cases hbiga0 : a0.size > 1048576
  · go_enter Tryd.func4, Tryd.ntmps4
    go_wp2_with fail
    go_ret
    exact ⟨rfl, Below.refl _ _⟩
  go_enter Tryd.func4, Tryd.ntmps4
  go_wp2_with fail
  refine (kit.specParseConfig a0 w (by omega)).mono ?_
  rintro e w1 ⟨uI, uS, he, hoI, hoS, hb, hap⟩
  generalize hT1 : kit.parC1 a0.data.toList = T1 at hoI
  have lT1 : T1.length ≤ 4194304 := by rw [← hT1]; exact kit.parC1_len _
  have HT1 := Lib.hid hT1
  clear hT1
  generalize hT2 : kit.parC2 a0.data.toList = T2 at hoS
  have lT2 : T2.length ≤ 4194304 := by rw [← hT2]; exact kit.parC2_len _
  have HT2 := Lib.hid hT2
  clear hT2
  generalize hT3 : kit.parCx a0.data.toList = T3 at he
  have HT3 := Lib.hid hT3
  clear hT3
  generalize hT4 : kit.parCy a0.data.toList = T4 at he
  have HT4 := Lib.hid hT4
  clear hT4
  generalize hT5 : kit.parCok a0.data.toList = T5 at he
  have HT5 := Lib.hid hT5
  clear hT5
  obtain ⟨yr2, qr2, rfl⟩ := hoI.shape
  obtain ⟨yr3, qr3, rfl⟩ := hoS.shape
  have HPr2 := Lib.hid hap
  clear hap
  subst he
  replace HB := Lib.hid (HB.out.trans (hb.mono hz))
  replace hz := Nat.le_trans hz hb.size
  have HZw1 := Lib.hid hb.size
  have HOr2 := Lib.hid hoI
  have HUr2 := Lib.hid hoI.block
  clear hoI
  have HOr3 := Lib.hid hoS
  have HUr3 := Lib.hid hoS.block
  clear hoS
  clear hb
  go_wp2_with fail
  obtain ⟨w4, hw4⟩ : ∃ W, W = w1.alloc (.cells #[.int .i64 T3, .int .i64 T4, .slice yr2 T1.length qr2, .slice yr3 T2.length qr3] 27) := ⟨_, rfl⟩
  rw [← hw4]
  obtain ⟨pw4, epw4⟩ : ∃ p, p = w1.heap.size := ⟨_, rfl⟩
  rw [← epw4]
  have Epw4 := Lib.hid epw4
  have epw4' := Epw4.out
  clear epw4
  have xpw4_0 : w4.cell? ⟨pw4, 0, none⟩ = some (.int .i64 T3) := by rw [hw4, epw4', World.cell?_alloc_at _ _ _ _ rfl]; rfl
  have xpw4_1 : w4.cell? ⟨pw4, 1, none⟩ = some (.int .i64 T4) := by rw [hw4, epw4', World.cell?_alloc_at _ _ _ _ rfl]; rfl
  have xpw4_2 : w4.cell? ⟨pw4, 2, none⟩ = some (.slice yr2 T1.length qr2) := by rw [hw4, epw4', World.cell?_alloc_at _ _ _ _ rfl]; rfl
  have xpw4_3 : w4.cell? ⟨pw4, 3, none⟩ = some (.slice yr3 T2.length qr3) := by rw [hw4, epw4', World.cell?_alloc_at _ _ _ _ rfl]; rfl
  have hpw4 : pw4 < w4.heap.size := by rw [hw4, epw4', World.size_alloc]; exact Nat.lt_succ_self _
  have hb : Below w1.heap.size w1 w4 := by rw [hw4]; exact (Below.refl _ _).alloc (Nat.le_refl _) _
  have Sw4 := Lib.hid (show w4.heap.size = w1.heap.size + 1 by rw [hw4, World.size_alloc])
  replace HB := Lib.hid (HB.out.trans (hb.mono hz))
  replace hz := Nat.le_trans hz hb.size
  have HZw4 := Lib.hid hb.size
  replace HOr2 := Lib.hid (HOr2.out.later hb)
  replace HOr3 := Lib.hid (HOr3.out.later hb)
  clear hb
  clear epw4' hw4
  refine (kit.implParseConfig a0 w4 (by omega) (hT.below HB.out) (hM.below HB.out)).mono ?_
  rintro e w5 ⟨uI, uS, he, hoI, hoS, hb, hap⟩
  rw [HT1.out] at hoI
  rw [HT2.out] at hoS
  rw [HT3.out] at he
  rw [HT4.out] at he
  rw [HT5.out] at he
  obtain ⟨yr6, qr6, rfl⟩ := hoI.shape
  obtain ⟨yr7, qr7, rfl⟩ := hoS.shape
  have HPr6 := Lib.hid hap
  clear hap
  subst he
  replace xpw4_0 := (hb.cell (p := ⟨pw4, 0, none⟩) hpw4).trans xpw4_0
  replace xpw4_1 := (hb.cell (p := ⟨pw4, 1, none⟩) hpw4).trans xpw4_1
  replace xpw4_2 := (hb.cell (p := ⟨pw4, 2, none⟩) hpw4).trans xpw4_2
  replace xpw4_3 := (hb.cell (p := ⟨pw4, 3, none⟩) hpw4).trans xpw4_3
  replace hpw4 := Nat.lt_of_lt_of_le hpw4 hb.size
  replace HB := Lib.hid (HB.out.trans (hb.mono hz))
  replace hz := Nat.le_trans hz hb.size
  have HZw5 := Lib.hid hb.size
  replace HOr2 := Lib.hid (HOr2.out.later hb)
  replace HOr3 := Lib.hid (HOr3.out.later hb)
  have HOr6 := Lib.hid hoI
  have HUr6 := Lib.hid hoI.block
  clear hoI
  have HOr7 := Lib.hid hoS
  have HUr7 := Lib.hid hoS.block
  clear hoS
  clear hb
  go_wp2_with fail
  obtain ⟨w8, hw8⟩ : ∃ W, W = w5.alloc (.cells #[.int .i64 T3, .int .i64 T4, .slice yr6 T1.length qr6, .slice yr7 T2.length qr7] 27) := ⟨_, rfl⟩
  rw [← hw8]
  obtain ⟨pw8, epw8⟩ : ∃ p, p = w5.heap.size := ⟨_, rfl⟩
  rw [← epw8]
  have Epw8 := Lib.hid epw8
  have epw8' := Epw8.out
  clear epw8
  have xpw8_0 : w8.cell? ⟨pw8, 0, none⟩ = some (.int .i64 T3) := by rw [hw8, epw8', World.cell?_alloc_at _ _ _ _ rfl]; rfl
  have xpw8_1 : w8.cell? ⟨pw8, 1, none⟩ = some (.int .i64 T4) := by rw [hw8, epw8', World.cell?_alloc_at _ _ _ _ rfl]; rfl
  have xpw8_2 : w8.cell? ⟨pw8, 2, none⟩ = some (.slice yr6 T1.length qr6) := by rw [hw8, epw8', World.cell?_alloc_at _ _ _ _ rfl]; rfl
  have xpw8_3 : w8.cell? ⟨pw8, 3, none⟩ = some (.slice yr7 T2.length qr7) := by rw [hw8, epw8', World.cell?_alloc_at _ _ _ _ rfl]; rfl
  have hpw8 : pw8 < w8.heap.size := by rw [hw8, epw8', World.size_alloc]; exact Nat.lt_succ_self _
  have hb : Below w5.heap.size w5 w8 := by rw [hw8]; exact (Below.refl _ _).alloc (Nat.le_refl _) _
  have Sw8 := Lib.hid (show w8.heap.size = w5.heap.size + 1 by rw [hw8, World.size_alloc])
  replace xpw4_0 := (hb.cell (p := ⟨pw4, 0, none⟩) hpw4).trans xpw4_0
  replace xpw4_1 := (hb.cell (p := ⟨pw4, 1, none⟩) hpw4).trans xpw4_1
  replace xpw4_2 := (hb.cell (p := ⟨pw4, 2, none⟩) hpw4).trans xpw4_2
  replace xpw4_3 := (hb.cell (p := ⟨pw4, 3, none⟩) hpw4).trans xpw4_3
  replace hpw4 := Nat.lt_of_lt_of_le hpw4 hb.size
  replace HB := Lib.hid (HB.out.trans (hb.mono hz))
  replace hz := Nat.le_trans hz hb.size
  have HZw8 := Lib.hid hb.size
  replace HOr2 := Lib.hid (HOr2.out.later hb)
  replace HOr3 := Lib.hid (HOr3.out.later hb)
  replace HOr6 := Lib.hid (HOr6.out.later hb)
  replace HOr7 := Lib.hid (HOr7.out.later hb)
  clear hb
  clear epw8' hw8
  refine (kit.eqConfigO T3 T4 _ _ (.slice yr6 T1.length qr6) (.slice yr7 T2.length qr7) T1 T2 T3 T4 _ _ (.slice yr2 T1.length qr2) (.slice yr3 T2.length qr3) T1 T2 w8 (by omega) (by omega) HOr6.out HOr7.out (by omega) (by omega) HOr2.out HOr3.out).mono ?_
  rintro e w9 ⟨he, hb⟩
  rw [decide_eq_true ⟨rfl, rfl, rfl, rfl⟩] at he
  subst he
  replace xpw4_0 := (hb.cell (p := ⟨pw4, 0, none⟩) hpw4).trans xpw4_0
  replace xpw4_1 := (hb.cell (p := ⟨pw4, 1, none⟩) hpw4).trans xpw4_1
  replace xpw4_2 := (hb.cell (p := ⟨pw4, 2, none⟩) hpw4).trans xpw4_2
  replace xpw4_3 := (hb.cell (p := ⟨pw4, 3, none⟩) hpw4).trans xpw4_3
  replace hpw4 := Nat.lt_of_lt_of_le hpw4 hb.size
  replace xpw8_0 := (hb.cell (p := ⟨pw8, 0, none⟩) hpw8).trans xpw8_0
  replace xpw8_1 := (hb.cell (p := ⟨pw8, 1, none⟩) hpw8).trans xpw8_1
  replace xpw8_2 := (hb.cell (p := ⟨pw8, 2, none⟩) hpw8).trans xpw8_2
  replace xpw8_3 := (hb.cell (p := ⟨pw8, 3, none⟩) hpw8).trans xpw8_3
  replace hpw8 := Nat.lt_of_lt_of_le hpw8 hb.size
  replace HB := Lib.hid (HB.out.trans (hb.mono hz))
  replace hz := Nat.le_trans hz hb.size
  have HZw9 := Lib.hid hb.size
  replace HOr2 := Lib.hid (HOr2.out.later hb)
  replace HOr3 := Lib.hid (HOr3.out.later hb)
  replace HOr6 := Lib.hid (HOr6.out.later hb)
  replace HOr7 := Lib.hid (HOr7.out.later hb)
  clear hb
  go_wp2_with fail
  refine (kit.markConfig T3 T4 _ _ (.slice yr6 T1.length qr6) (.slice yr7 T2.length qr7) T1 T2 w9 (by omega) (by omega) HOr6.out HOr7.out HPr6.out 1 rfl).mono ?_
  rintro e w10 ⟨rfl, hoI, hoS, wa, wb, hA, hg1, hg2⟩
  have hap1 := HPr6.out
  have hb : Below w.heap.size w9 w10 := ((hA.mono hz).grown hg1 (Nat.le_trans hz hA.size) (fun g h => by have := HUr6.out g h; have := HZw1.out; have := Epw4.out; have := Sw4.out; have := HZw4.out; have := HZw5.out; have := Epw8.out; have := Sw8.out; have := HZw8.out; have := HZw9.out; omega)).grown hg2 (Nat.le_trans hz (Nat.le_trans hA.size hg1.size)) (fun g h => by have := HUr7.out g h; have := HZw1.out; have := Epw4.out; have := Sw4.out; have := HZw4.out; have := HZw5.out; have := Epw8.out; have := Sw8.out; have := HZw8.out; have := HZw9.out; omega)
  have hs : w9.heap.size ≤ w10.heap.size := hb.size
  replace xpw4_0 := (World.cell?_of_block (a := ⟨pw4, 0, none⟩) (kit.still hA hg1 hg2 (b := pw4) hpw4 (fun e => by have := HUr6.out _ e; have := HZw1.out; have := Epw4.out; have := Sw4.out; have := HZw4.out; have := HZw5.out; have := Epw8.out; have := Sw8.out; have := HZw8.out; have := HZw9.out; omega) (fun e => by have := HUr7.out _ e; have := HZw1.out; have := Epw4.out; have := Sw4.out; have := HZw4.out; have := HZw5.out; have := Epw8.out; have := Sw8.out; have := HZw8.out; have := HZw9.out; omega))).trans xpw4_0
  replace xpw4_1 := (World.cell?_of_block (a := ⟨pw4, 1, none⟩) (kit.still hA hg1 hg2 (b := pw4) hpw4 (fun e => by have := HUr6.out _ e; have := HZw1.out; have := Epw4.out; have := Sw4.out; have := HZw4.out; have := HZw5.out; have := Epw8.out; have := Sw8.out; have := HZw8.out; have := HZw9.out; omega) (fun e => by have := HUr7.out _ e; have := HZw1.out; have := Epw4.out; have := Sw4.out; have := HZw4.out; have := HZw5.out; have := Epw8.out; have := Sw8.out; have := HZw8.out; have := HZw9.out; omega))).trans xpw4_1
  replace xpw4_2 := (World.cell?_of_block (a := ⟨pw4, 2, none⟩) (kit.still hA hg1 hg2 (b := pw4) hpw4 (fun e => by have := HUr6.out _ e; have := HZw1.out; have := Epw4.out; have := Sw4.out; have := HZw4.out; have := HZw5.out; have := Epw8.out; have := Sw8.out; have := HZw8.out; have := HZw9.out; omega) (fun e => by have := HUr7.out _ e; have := HZw1.out; have := Epw4.out; have := Sw4.out; have := HZw4.out; have := HZw5.out; have := Epw8.out; have := Sw8.out; have := HZw8.out; have := HZw9.out; omega))).trans xpw4_2
  replace xpw4_3 := (World.cell?_of_block (a := ⟨pw4, 3, none⟩) (kit.still hA hg1 hg2 (b := pw4) hpw4 (fun e => by have := HUr6.out _ e; have := HZw1.out; have := Epw4.out; have := Sw4.out; have := HZw4.out; have := HZw5.out; have := Epw8.out; have := Sw8.out; have := HZw8.out; have := HZw9.out; omega) (fun e => by have := HUr7.out _ e; have := HZw1.out; have := Epw4.out; have := Sw4.out; have := HZw4.out; have := HZw5.out; have := Epw8.out; have := Sw8.out; have := HZw8.out; have := HZw9.out; omega))).trans xpw4_3
  replace hpw4 := Nat.lt_of_lt_of_le hpw4 hs
  replace xpw8_0 := (World.cell?_of_block (a := ⟨pw8, 0, none⟩) (kit.still hA hg1 hg2 (b := pw8) hpw8 (fun e => by have := HUr6.out _ e; have := HZw1.out; have := Epw4.out; have := Sw4.out; have := HZw4.out; have := HZw5.out; have := Epw8.out; have := Sw8.out; have := HZw8.out; have := HZw9.out; omega) (fun e => by have := HUr7.out _ e; have := HZw1.out; have := Epw4.out; have := Sw4.out; have := HZw4.out; have := HZw5.out; have := Epw8.out; have := Sw8.out; have := HZw8.out; have := HZw9.out; omega))).trans xpw8_0
  replace xpw8_1 := (World.cell?_of_block (a := ⟨pw8, 1, none⟩) (kit.still hA hg1 hg2 (b := pw8) hpw8 (fun e => by have := HUr6.out _ e; have := HZw1.out; have := Epw4.out; have := Sw4.out; have := HZw4.out; have := HZw5.out; have := Epw8.out; have := Sw8.out; have := HZw8.out; have := HZw9.out; omega) (fun e => by have := HUr7.out _ e; have := HZw1.out; have := Epw4.out; have := Sw4.out; have := HZw4.out; have := HZw5.out; have := Epw8.out; have := Sw8.out; have := HZw8.out; have := HZw9.out; omega))).trans xpw8_1
  replace xpw8_2 := (World.cell?_of_block (a := ⟨pw8, 2, none⟩) (kit.still hA hg1 hg2 (b := pw8) hpw8 (fun e => by have := HUr6.out _ e; have := HZw1.out; have := Epw4.out; have := Sw4.out; have := HZw4.out; have := HZw5.out; have := Epw8.out; have := Sw8.out; have := HZw8.out; have := HZw9.out; omega) (fun e => by have := HUr7.out _ e; have := HZw1.out; have := Epw4.out; have := Sw4.out; have := HZw4.out; have := HZw5.out; have := Epw8.out; have := Sw8.out; have := HZw8.out; have := HZw9.out; omega))).trans xpw8_2
  replace xpw8_3 := (World.cell?_of_block (a := ⟨pw8, 3, none⟩) (kit.still hA hg1 hg2 (b := pw8) hpw8 (fun e => by have := HUr6.out _ e; have := HZw1.out; have := Epw4.out; have := Sw4.out; have := HZw4.out; have := HZw5.out; have := Epw8.out; have := Sw8.out; have := HZw8.out; have := HZw9.out; omega) (fun e => by have := HUr7.out _ e; have := HZw1.out; have := Epw4.out; have := Sw4.out; have := HZw4.out; have := HZw5.out; have := Epw8.out; have := Sw8.out; have := HZw8.out; have := HZw9.out; omega))).trans xpw8_3
  replace hpw8 := Nat.lt_of_lt_of_le hpw8 hs
  replace HOr2 := Lib.hid (((HOr2.out.later hA).marked hg1 (fun g a c => by have h3 := HUr6.out g a; have h4 := HUr2.out g c; have := HZw1.out; have := Epw4.out; have := Sw4.out; have := HZw4.out; have := HZw5.out; have := Epw8.out; have := Sw8.out; have := HZw8.out; have := HZw9.out; omega)).marked hg2 (fun g a c => by have h3 := HUr7.out g a; have h4 := HUr2.out g c; have := HZw1.out; have := Epw4.out; have := Sw4.out; have := HZw4.out; have := HZw5.out; have := Epw8.out; have := Sw8.out; have := HZw8.out; have := HZw9.out; omega))
  replace HOr3 := Lib.hid (((HOr3.out.later hA).marked hg1 (fun g a c => by have h3 := HUr6.out g a; have h4 := HUr3.out g c; have := HZw1.out; have := Epw4.out; have := Sw4.out; have := HZw4.out; have := HZw5.out; have := Epw8.out; have := Sw8.out; have := HZw8.out; have := HZw9.out; omega)).marked hg2 (fun g a c => by have h3 := HUr7.out g a; have h4 := HUr3.out g c; have := HZw1.out; have := Epw4.out; have := Sw4.out; have := HZw4.out; have := HZw5.out; have := Epw8.out; have := Sw8.out; have := HZw8.out; have := HZw9.out; omega))
  replace HB := Lib.hid (HB.out.trans hb)
  replace hz := Nat.le_trans hz hs
  have HZw10 := Lib.hid hs
  replace HOr6 := Lib.hid hoI
  replace HOr7 := Lib.hid hoS
  clear hap1 hb hs hA hg1 hg2 hoI hoS
  go_wp2_with fail
  refine (kit.heldConfig T3 T4 _ _ (.slice yr6 T1.length qr6) (.slice yr7 T2.length qr7) (T1.length) (T2.length) w10 (by omega) (by omega) HOr6.out HOr7.out 1 rfl).mono ?_
  rintro e w11 ⟨rfl, hb⟩
  replace xpw4_0 := (hb.cell (p := ⟨pw4, 0, none⟩) hpw4).trans xpw4_0
  replace xpw4_1 := (hb.cell (p := ⟨pw4, 1, none⟩) hpw4).trans xpw4_1
  replace xpw4_2 := (hb.cell (p := ⟨pw4, 2, none⟩) hpw4).trans xpw4_2
  replace xpw4_3 := (hb.cell (p := ⟨pw4, 3, none⟩) hpw4).trans xpw4_3
  replace hpw4 := Nat.lt_of_lt_of_le hpw4 hb.size
  replace xpw8_0 := (hb.cell (p := ⟨pw8, 0, none⟩) hpw8).trans xpw8_0
  replace xpw8_1 := (hb.cell (p := ⟨pw8, 1, none⟩) hpw8).trans xpw8_1
  replace xpw8_2 := (hb.cell (p := ⟨pw8, 2, none⟩) hpw8).trans xpw8_2
  replace xpw8_3 := (hb.cell (p := ⟨pw8, 3, none⟩) hpw8).trans xpw8_3
  replace hpw8 := Nat.lt_of_lt_of_le hpw8 hb.size
  replace HB := Lib.hid (HB.out.trans (hb.mono hz))
  replace hz := Nat.le_trans hz hb.size
  have HZw11 := Lib.hid hb.size
  replace HOr2 := Lib.hid (HOr2.out.later hb)
  replace HOr3 := Lib.hid (HOr3.out.later hb)
  replace HOr6 := Lib.hid (HOr6.out.later hb)
  replace HOr7 := Lib.hid (HOr7.out.later hb)
  clear hb
  go_wp2_with fail
  refine (kit.implParseConfig a0 w11 (by omega) (hT.below HB.out) (hM.below HB.out)).mono ?_
  rintro e w12 ⟨uI, uS, he, hoI, hoS, hb, hap⟩
  rw [HT1.out] at hoI
  rw [HT2.out] at hoS
  rw [HT3.out] at he
  rw [HT4.out] at he
  rw [HT5.out] at he
  obtain ⟨yr13, qr13, rfl⟩ := hoI.shape
  obtain ⟨yr14, qr14, rfl⟩ := hoS.shape
  have HPr13 := Lib.hid hap
  clear hap
  subst he
  replace xpw4_0 := (hb.cell (p := ⟨pw4, 0, none⟩) hpw4).trans xpw4_0
  replace xpw4_1 := (hb.cell (p := ⟨pw4, 1, none⟩) hpw4).trans xpw4_1
  replace xpw4_2 := (hb.cell (p := ⟨pw4, 2, none⟩) hpw4).trans xpw4_2
  replace xpw4_3 := (hb.cell (p := ⟨pw4, 3, none⟩) hpw4).trans xpw4_3
  replace hpw4 := Nat.lt_of_lt_of_le hpw4 hb.size
  replace xpw8_0 := (hb.cell (p := ⟨pw8, 0, none⟩) hpw8).trans xpw8_0
  replace xpw8_1 := (hb.cell (p := ⟨pw8, 1, none⟩) hpw8).trans xpw8_1
  replace xpw8_2 := (hb.cell (p := ⟨pw8, 2, none⟩) hpw8).trans xpw8_2
  replace xpw8_3 := (hb.cell (p := ⟨pw8, 3, none⟩) hpw8).trans xpw8_3
  replace hpw8 := Nat.lt_of_lt_of_le hpw8 hb.size
  replace HB := Lib.hid (HB.out.trans (hb.mono hz))
  replace hz := Nat.le_trans hz hb.size
  have HZw12 := Lib.hid hb.size
  replace HOr2 := Lib.hid (HOr2.out.later hb)
  replace HOr3 := Lib.hid (HOr3.out.later hb)
  replace HOr6 := Lib.hid (HOr6.out.later hb)
  replace HOr7 := Lib.hid (HOr7.out.later hb)
  have HOr13 := Lib.hid hoI
  have HUr13 := Lib.hid hoI.block
  clear hoI
  have HOr14 := Lib.hid hoS
  have HUr14 := Lib.hid hoS.block
  clear hoS
  clear hb
  go_wp2_with fail
  obtain ⟨w15, hw15⟩ : ∃ W, W = w12.alloc (.cells #[.int .i64 T3, .int .i64 T4, .slice yr13 T1.length qr13, .slice yr14 T2.length qr14] 27) := ⟨_, rfl⟩
  rw [← hw15]
  obtain ⟨pw15, epw15⟩ : ∃ p, p = w12.heap.size := ⟨_, rfl⟩
  rw [← epw15]
  have Epw15 := Lib.hid epw15
  have epw15' := Epw15.out
  clear epw15
  have xpw15_0 : w15.cell? ⟨pw15, 0, none⟩ = some (.int .i64 T3) := by rw [hw15, epw15', World.cell?_alloc_at _ _ _ _ rfl]; rfl
  have xpw15_1 : w15.cell? ⟨pw15, 1, none⟩ = some (.int .i64 T4) := by rw [hw15, epw15', World.cell?_alloc_at _ _ _ _ rfl]; rfl
  have xpw15_2 : w15.cell? ⟨pw15, 2, none⟩ = some (.slice yr13 T1.length qr13) := by rw [hw15, epw15', World.cell?_alloc_at _ _ _ _ rfl]; rfl
  have xpw15_3 : w15.cell? ⟨pw15, 3, none⟩ = some (.slice yr14 T2.length qr14) := by rw [hw15, epw15', World.cell?_alloc_at _ _ _ _ rfl]; rfl
  have hpw15 : pw15 < w15.heap.size := by rw [hw15, epw15', World.size_alloc]; exact Nat.lt_succ_self _
  have hb : Below w12.heap.size w12 w15 := by rw [hw15]; exact (Below.refl _ _).alloc (Nat.le_refl _) _
  have Sw15 := Lib.hid (show w15.heap.size = w12.heap.size + 1 by rw [hw15, World.size_alloc])
  replace xpw4_0 := (hb.cell (p := ⟨pw4, 0, none⟩) hpw4).trans xpw4_0
  replace xpw4_1 := (hb.cell (p := ⟨pw4, 1, none⟩) hpw4).trans xpw4_1
  replace xpw4_2 := (hb.cell (p := ⟨pw4, 2, none⟩) hpw4).trans xpw4_2
  replace xpw4_3 := (hb.cell (p := ⟨pw4, 3, none⟩) hpw4).trans xpw4_3
  replace hpw4 := Nat.lt_of_lt_of_le hpw4 hb.size
  replace xpw8_0 := (hb.cell (p := ⟨pw8, 0, none⟩) hpw8).trans xpw8_0
  replace xpw8_1 := (hb.cell (p := ⟨pw8, 1, none⟩) hpw8).trans xpw8_1
  replace xpw8_2 := (hb.cell (p := ⟨pw8, 2, none⟩) hpw8).trans xpw8_2
  replace xpw8_3 := (hb.cell (p := ⟨pw8, 3, none⟩) hpw8).trans xpw8_3
  replace hpw8 := Nat.lt_of_lt_of_le hpw8 hb.size
  replace HB := Lib.hid (HB.out.trans (hb.mono hz))
  replace hz := Nat.le_trans hz hb.size
  have HZw15 := Lib.hid hb.size
  replace HOr2 := Lib.hid (HOr2.out.later hb)
  replace HOr3 := Lib.hid (HOr3.out.later hb)
  replace HOr6 := Lib.hid (HOr6.out.later hb)
  replace HOr7 := Lib.hid (HOr7.out.later hb)
  replace HOr13 := Lib.hid (HOr13.out.later hb)
  replace HOr14 := Lib.hid (HOr14.out.later hb)
  clear hb
  clear epw15' hw15
  refine (kit.eqConfigO T3 T4 _ _ (.slice yr13 T1.length qr13) (.slice yr14 T2.length qr14) T1 T2 T3 T4 _ _ (.slice yr2 T1.length qr2) (.slice yr3 T2.length qr3) T1 T2 w15 (by omega) (by omega) HOr13.out HOr14.out (by omega) (by omega) HOr2.out HOr3.out).mono ?_
  rintro e w16 ⟨he, hb⟩
  rw [decide_eq_true ⟨rfl, rfl, rfl, rfl⟩] at he
  subst he
  replace xpw4_0 := (hb.cell (p := ⟨pw4, 0, none⟩) hpw4).trans xpw4_0
  replace xpw4_1 := (hb.cell (p := ⟨pw4, 1, none⟩) hpw4).trans xpw4_1
  replace xpw4_2 := (hb.cell (p := ⟨pw4, 2, none⟩) hpw4).trans xpw4_2
  replace xpw4_3 := (hb.cell (p := ⟨pw4, 3, none⟩) hpw4).trans xpw4_3
  replace hpw4 := Nat.lt_of_lt_of_le hpw4 hb.size
  replace xpw8_0 := (hb.cell (p := ⟨pw8, 0, none⟩) hpw8).trans xpw8_0
  replace xpw8_1 := (hb.cell (p := ⟨pw8, 1, none⟩) hpw8).trans xpw8_1
  replace xpw8_2 := (hb.cell (p := ⟨pw8, 2, none⟩) hpw8).trans xpw8_2
  replace xpw8_3 := (hb.cell (p := ⟨pw8, 3, none⟩) hpw8).trans xpw8_3
  replace hpw8 := Nat.lt_of_lt_of_le hpw8 hb.size
  replace xpw15_0 := (hb.cell (p := ⟨pw15, 0, none⟩) hpw15).trans xpw15_0
  replace xpw15_1 := (hb.cell (p := ⟨pw15, 1, none⟩) hpw15).trans xpw15_1
  replace xpw15_2 := (hb.cell (p := ⟨pw15, 2, none⟩) hpw15).trans xpw15_2
  replace xpw15_3 := (hb.cell (p := ⟨pw15, 3, none⟩) hpw15).trans xpw15_3
  replace hpw15 := Nat.lt_of_lt_of_le hpw15 hb.size
  replace HB := Lib.hid (HB.out.trans (hb.mono hz))
  replace hz := Nat.le_trans hz hb.size
  have HZw16 := Lib.hid hb.size
  replace HOr2 := Lib.hid (HOr2.out.later hb)
  replace HOr3 := Lib.hid (HOr3.out.later hb)
  replace HOr6 := Lib.hid (HOr6.out.later hb)
  replace HOr7 := Lib.hid (HOr7.out.later hb)
  replace HOr13 := Lib.hid (HOr13.out.later hb)
  replace HOr14 := Lib.hid (HOr14.out.later hb)
  clear hb
  go_wp2_with fail
  refine (kit.heldConfig T3 T4 _ _ (.slice yr6 T1.length qr6) (.slice yr7 T2.length qr7) (T1.length) (T2.length) w16 (by omega) (by omega) HOr6.out HOr7.out 1 rfl).mono ?_
  rintro e w17 ⟨rfl, hb⟩
  replace xpw4_0 := (hb.cell (p := ⟨pw4, 0, none⟩) hpw4).trans xpw4_0
  replace xpw4_1 := (hb.cell (p := ⟨pw4, 1, none⟩) hpw4).trans xpw4_1
  replace xpw4_2 := (hb.cell (p := ⟨pw4, 2, none⟩) hpw4).trans xpw4_2
  replace xpw4_3 := (hb.cell (p := ⟨pw4, 3, none⟩) hpw4).trans xpw4_3
  replace hpw4 := Nat.lt_of_lt_of_le hpw4 hb.size
  replace xpw8_0 := (hb.cell (p := ⟨pw8, 0, none⟩) hpw8).trans xpw8_0
  replace xpw8_1 := (hb.cell (p := ⟨pw8, 1, none⟩) hpw8).trans xpw8_1
  replace xpw8_2 := (hb.cell (p := ⟨pw8, 2, none⟩) hpw8).trans xpw8_2
  replace xpw8_3 := (hb.cell (p := ⟨pw8, 3, none⟩) hpw8).trans xpw8_3
  replace hpw8 := Nat.lt_of_lt_of_le hpw8 hb.size
  replace xpw15_0 := (hb.cell (p := ⟨pw15, 0, none⟩) hpw15).trans xpw15_0
  replace xpw15_1 := (hb.cell (p := ⟨pw15, 1, none⟩) hpw15).trans xpw15_1
  replace xpw15_2 := (hb.cell (p := ⟨pw15, 2, none⟩) hpw15).trans xpw15_2
  replace xpw15_3 := (hb.cell (p := ⟨pw15, 3, none⟩) hpw15).trans xpw15_3
  replace hpw15 := Nat.lt_of_lt_of_le hpw15 hb.size
  replace HB := Lib.hid (HB.out.trans (hb.mono hz))
  replace hz := Nat.le_trans hz hb.size
  have HZw17 := Lib.hid hb.size
  replace HOr2 := Lib.hid (HOr2.out.later hb)
  replace HOr3 := Lib.hid (HOr3.out.later hb)
  replace HOr6 := Lib.hid (HOr6.out.later hb)
  replace HOr7 := Lib.hid (HOr7.out.later hb)
  replace HOr13 := Lib.hid (HOr13.out.later hb)
  replace HOr14 := Lib.hid (HOr14.out.later hb)
  clear hb
  go_wp2_with fail
  go_ret
  exact ⟨rfl, HB.out⟩
set_option maxRecDepth 100000 in
theorem contract (H : Type) (enc : TypeId × Value → H) (W : World) (base : Nat) (args : Array Value) (ds gs : List (DataW H)) (before : List MemPlace)
    (hval0 : ∀ (j : Nat) t v, Tryd.f4.params[j]? = some t → args[j]? = some v → Value.okWide Tryd.prog W .any base t v)
    (hW : DataW.Whole enc Tryd.prog Tryd.f4.params.toList Rows.fnExactParseConfigSpec.vars false W args.toList ds gs before) (hL : laidMetH Tryd.prog Rows.fnExactParseConfigRow.laid W) (hS : W.ShapedOpen Tryd.prog) :
    Calls Tryd.prog 4 args W fun e W' => ∃ v, e = .returned v ∧ Rows.fnExactParseConfigSpec.post enc Tryd.prog Tryd.f4 false true false false W args v W' := by
  have hT : kit.Tab W := kit.tab_of_laid (by kernel_rfl) hL
  have hval : ∀ (j : Nat) t v, Tryd.f4.params[j]? = some t → args[j]? = some v → Value.okWide Tryd.prog W .any base t v := hval0
  have hW' := hW
  obtain ⟨p, q, hA0, hV, rfl, hfz, hnd⟩ := hW
  have hA : DataW.TrodAll enc Tryd.prog W 0 (fun _ => true) true Tryd.f4.params.toList args.toList ds p := hA0
  rw [Tryd.params4] at hA hval
  obtain ⟨v0, vs0, d0, ds0, p0, q0, hargs, rfl, rfl, h0, r0⟩ := trodAll_cons hA
  obtain ⟨rfl, rfl, rfl⟩ := trodAll_nil r0
  obtain rfl : args = #[v0] := by cases args; simp_all
  obtain ⟨rfl, rfl⟩ := trodVars_none hV
  obtain ⟨a0, rfl, rfl, rfl, w0⟩ := open_string Tryd.underlying9 (hval 0 9 v0 rfl rfl) h0
  clear hA0 hval0
  refine (walk a0 W w0 hT (kit.mx_of_shape hS)).mono fun e W' ⟨he, bel⟩ => ?_
  subst he
  exact ⟨_, rfl, _, _, _, [], _, [], hW', trodAll_mk1 (shut_bool Tryd.underlying4 _), (trodAll_cons_mk (shut_string Tryd.underlying9 w0) trodAll_mk0), rfl, bel.frame _, fun h => by cases h⟩

noncomputable def laidWorld (os : Os) : World :=
  { World.holding Tryd.prog os ⟨#[], #[], []⟩ with heap := (kit.laidCells (kit.laidCells (kit.laidCells (kit.laidCells (kit.laidCells (World.holding Tryd.prog os ⟨#[], #[], []⟩).heap 4 Rows.laid_math_bits_deBruijn32tab) 5 Rows.laid_math_bits_deBruijn64tab) 3 Rows.laid_internal_strconv_uint64pow10) 2 Rows.laid_unicode_utf8_acceptRanges) 1 Rows.laid_unicode_utf8_first) }
theorem laid_met (os : Os) : laidMet Tryd.prog Rows.fnExactParseConfigRow.laid ((laidWorld os).forCall (fun _ _ => 0) ⟨#[], #[.string ByteArray.empty], []⟩).memory :=
  laidMet_of_run' 8 (by kernel_rfl) (by kernel_rfl)
theorem reads (os : Os) {H : Type} (enc : TypeId × Value → H) : ∃ places, DataW.whole enc Tryd.prog ((laidWorld os).forCall (fun _ _ => 0) ⟨#[], #[.string ByteArray.empty], []⟩).memory Tryd.f4.params.toList Rows.fnExactParseConfigSpec.vars false (#[.string ByteArray.empty] : Array Value).toList 8 = some ([.lit (.string [])], [], places) :=
  ⟨[], by kernel_rfl⟩
set_option maxRecDepth 100000 in
theorem lifted (os : Os) (started : os.Started) (H : Type) (enc : TypeId × Value → H) (F : Stop.Interp) :
    ReturnsInHanded {} Tryd.checked os 4 .any ((OpenSpec.ofChange Rows.fnExactParseConfigSpec).preRow enc Tryd.prog Tryd.f4 Rows.fnExactParseConfigRow.domain false Rows.fnExactParseConfigRow.laid) (((OpenSpec.ofChange Rows.fnExactParseConfigSpec).at F).post enc Tryd.prog Tryd.f4 false true false false) := by
  obtain ⟨places, hx⟩ := reads os enc
  refine returnsInHanded_of_row (C := Tryd.checked) (s := OpenSpec.ofChange Rows.fnExactParseConfigSpec) kit.own started (by kernel_rfl) Tryd.func4
    (witness_row_at (enc := enc) (C := Tryd.checked) false (laidWorld os) #[.string ByteArray.empty] rfl (by kernel_rfl) (by kernel_rfl) (by kernel_rfl)
      (OpenSpec.preRow_of_cond 8 hx (by kernel_rfl) (fun k hk => by cases hk) (by kernel_rfl) (laid_met os))) ?_
  intro W base args ds gs before hval hW _ _ _ hL hS _
  exact contract H enc W base args ds gs before hval hW hL hS
theorem said : Rows.FnExactParseConfigSaid :=
  OpenClaim.holds_of_cond 4 Tryd.f4 rfl rfl rfl rfl rfl rfl rfl ⟨rfl, rfl, rfl, rfl, rfl⟩ rfl rfl rfl rfl rfl (by kernel_rfl) Tryd.func4 (by kernel_rfl)
    (of_decide_eq_true (by kernel_rfl)) (by unfold Func.isWrapper; first | (rw [if_pos (by decide +kernel)]; kernel_rfl) | (rw [if_neg (by decide +kernel)]; exact ⟨rfl, rfl⟩))
    (fun os started H enc _ F => by rw [OpenClaim.pre_eq_preRow]; exact lifted os started H enc F)
theorem plain (f : FuncId) (fn : Func) (hf : Tryd.pinned.checked.prog.funcNamed "loop.example/g01926/laws.FnExactParseConfig" = some f) (hfn : Tryd.pinned.checked.prog.funcs[f]? = some fn) :
    false = Tryd.pinned.checked.prog.looks [] ∧ ∀ (j : Nat) t, fn.params[j]? = some t → Tryd.pinned.checked.prog.wantsStandIn t = false := by
  obtain rfl : f = 4 := Option.some.inj ((show Tryd.prog.funcNamed "loop.example/g01926/laws.FnExactParseConfig" = some 4 by kernel_rfl).symm.trans hf) |>.symm
  obtain rfl : fn = Tryd.f4 := (Option.some.inj (Tryd.func4.symm.trans hfn)).symm
  refine ⟨by kernel_rfl, fun j t ht => ?_⟩
  rw [Tryd.params4] at ht
  have hm := Array.mem_of_getElem? ht
  have hall : ∀ t ∈ (#[9] : Array TypeId), Tryd.prog.wantsStandIn t = false := by
    intro t ht
    simp only [List.mem_toArray, List.mem_cons, List.not_mem_nil, or_false] at ht
    subst ht; exact (show Tryd.prog.wantsStandIn 9 = false by kernel_rfl)
  exact hall t hm
theorem proved : Rows.FnExactParseConfigCardSaid :=
  Claim7.holds_tied_plain_at .later [] _ _ _ _ said (fun _ h => by cases h) (by kernel_rfl) (fun _ h => by cases h) fnExactParseConfig_row_tie rfl ⟨rfl, rfl⟩ (by kernel_rfl) rfl plain (by kernel_rfl)
end Go.Proofs.YtmojigimlhjphaaDoor.fnExactParseConfig
