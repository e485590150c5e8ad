/-
  For every []Entry (the law passes over those with more than 2^20 entries) and every Entry, impl's AppendEntry returns the same list and bool as the specification's, in memory of its own, and leaves its arguments as they were: the law returns true and changes nothing that was there. No condition.
-/
import Derived.Test.YtiibhecegnbcnaaS5App
import Derived.Deep.RegionWith
namespace Go.Proofs.Ytiibhecegnbcnaa.fnExactAppendEntry
open Go.ChangeShapes Go.WideShapes Go.ChangeAt Go.RowKit
set_option linter.unusedVariables false

set_option maxRecDepth 100000 in
set_option maxHeartbeats 16000000 in
theorem walk (a0 : Option Addr) (c0 : Nat) (L0 : List kit.Ent) (a1_0 : Int) (a1_1 : Int) (a1_2 : Int) (a1_3 : Int) (a1_4 : Int) (a1_5 : Int) (a1_6 : Int) (w : World) (wa0 : kit.AtE w a0 L0) (wl0 : L0.length ≤ maxLen) :
    Calls Try.prog 7 #[.slice a0 L0.length c0, .agg #[.int .i64 a1_0, .int .i64 a1_1, .int .i64 a1_2, .int .i64 a1_3, .int .i64 a1_4, .int .i64 a1_5, .int .i64 a1_6]] w fun e w' => e = .returned (.bool true) ∧ Below w.heap.size w w' := by
  unfold maxLen at wl0
  have HA0' := Lib.hid (kit.atE_low wa0)
  have HA0 := Lib.hid wa0
  clear wa0
  have HB := Lib.hid (Below.refl w.heap.size w)
  have hz : w.heap.size ≤ w.heap.size := Nat.le_refl _
  go_enter Try.func7, Try.ntmps7
  go_wp2_with fail
  obtain ⟨w1, hw1⟩ : ∃ W, W = w.alloc (.cells #[.int .i64 a1_0, .int .i64 a1_1, .int .i64 a1_2, .int .i64 a1_3, .int .i64 a1_4, .int .i64 a1_5, .int .i64 a1_6] 77) := ⟨_, rfl⟩
  rw [← hw1]
  obtain ⟨pw1, epw1⟩ : ∃ p, p = w.heap.size := ⟨_, rfl⟩
  rw [← epw1]
  have Epw1 := Lib.hid epw1
  have epw1' := Epw1.out
  clear epw1
  have xpw1_0 : w1.cell? ⟨pw1, 0, none⟩ = some (.int .i64 a1_0) := by rw [hw1, epw1', World.cell?_alloc_at _ _ _ _ rfl]; rfl
  have xpw1_1 : w1.cell? ⟨pw1, 1, none⟩ = some (.int .i64 a1_1) := by rw [hw1, epw1', World.cell?_alloc_at _ _ _ _ rfl]; rfl
  have xpw1_2 : w1.cell? ⟨pw1, 2, none⟩ = some (.int .i64 a1_2) := by rw [hw1, epw1', World.cell?_alloc_at _ _ _ _ rfl]; rfl
  have xpw1_3 : w1.cell? ⟨pw1, 3, none⟩ = some (.int .i64 a1_3) := by rw [hw1, epw1', World.cell?_alloc_at _ _ _ _ rfl]; rfl
  have xpw1_4 : w1.cell? ⟨pw1, 4, none⟩ = some (.int .i64 a1_4) := by rw [hw1, epw1', World.cell?_alloc_at _ _ _ _ rfl]; rfl
  have xpw1_5 : w1.cell? ⟨pw1, 5, none⟩ = some (.int .i64 a1_5) := by rw [hw1, epw1', World.cell?_alloc_at _ _ _ _ rfl]; rfl
  have xpw1_6 : w1.cell? ⟨pw1, 6, none⟩ = some (.int .i64 a1_6) := by rw [hw1, epw1', World.cell?_alloc_at _ _ _ _ rfl]; rfl
  have hpw1 : pw1 < w1.heap.size := by rw [hw1, epw1', World.size_alloc]; exact Nat.lt_succ_self _
  have hb : Below w.heap.size w w1 := by rw [hw1]; exact (Below.refl _ _).alloc (Nat.le_refl _) _
  have Sw1 := Lib.hid (show w1.heap.size = w.heap.size + 1 by rw [hw1, World.size_alloc])
  replace HB := Lib.hid (HB.out.trans (hb.mono hz))
  replace hz := Nat.le_trans hz hb.size
  have HZw1 := Lib.hid hb.size
  replace HA0 := Lib.hid (HA0.out.later hb)
  clear hb
  clear epw1' hw1
  refine (kit.szEntryS a0 L0.length c0 (1048576) w1 (by omega) (by omega) (by omega)).mono ?_
  rintro e w2 ⟨rfl, hw⟩
  subst hw
  by_cases hs1 : ¬ (L0.length : Int) ≤ 1048576
  · rw [if_neg hs1]
    go_wp2_with fail
    go_ret
    exact ⟨rfl, HB.out⟩
  replace hs1 := Decidable.not_not.1 hs1
  rw [if_pos hs1]
  go_wp2_with fail
  obtain ⟨T1, hT1⟩ : ∃ T, kit.appE L0 ⟨a1_0, a1_1, a1_2, a1_3, a1_4, a1_5, a1_6⟩ = T := ⟨_, rfl⟩
  have lT1 : T1.length ≤ 2097152 := by rw [← hT1]; exact kit.appE_len _ _ (by omega)
  have HT1 := Lib.hid hT1
  clear hT1
  obtain ⟨T2, hT2⟩ : ∃ T, kit.appEok L0 ⟨a1_0, a1_1, a1_2, a1_3, a1_4, a1_5, a1_6⟩ = T := ⟨_, rfl⟩
  have HT2 := Lib.hid hT2
  clear hT2
  go_upto_region 5 with (fail)
  go_cut [6, 7] (fun b0 b1 wx => ∃ v, b0 = v ∧ b1 = .bool T2 ∧ kit.OwnE w1.heap.size wx v T1 ∧ Below w1.heap.size w1 wx)
  case first =>
    have hW0 := Lib.hid ((Below.refl w1.heap.size w1).drew)
    go_region_held3 (fun w' => w'.cell? ⟨pw1, 0, none⟩ = some (.int .i64 a1_0) ∧ w'.cell? ⟨pw1, 1, none⟩ = some (.int .i64 a1_1) ∧ w'.cell? ⟨pw1, 2, none⟩ = some (.int .i64 a1_2) ∧ w'.cell? ⟨pw1, 3, none⟩ = some (.int .i64 a1_3) ∧ w'.cell? ⟨pw1, 4, none⟩ = some (.int .i64 a1_4) ∧ w'.cell? ⟨pw1, 5, none⟩ = some (.int .i64 a1_5) ∧ w'.cell? ⟨pw1, 6, none⟩ = some (.int .i64 a1_6))
      (first | (with_reducible assumption) | (with_reducible exact kit.keep7 (by with_reducible assumption) hb2) | (with_reducible exact kit.keep7 (by with_reducible assumption) hb1) | (with_reducible exact kit.keep7 (by with_reducible assumption) hb0) | go_keep)
      (first | (go_at_call 45; (with_reducible refine (kit.toEntryS a0 c0 L0 _ (by omega) (HA0.out.later hW0.out)).mono ?_); rintro e wa0 ⟨u0, rfl, ho, hb0⟩; obtain ⟨yr3, qr3, rfl⟩ := ho.shape; have hB0 := Lib.hid (hW0.out.trans (hb0.mono hW0.out.size)); have HOr3 := Lib.hid ho; clear ho) | (go_at_call 47; (with_reducible refine (kit.toEntry7 a1_0 a1_1 a1_2 a1_3 a1_4 a1_5 a1_6 _).mono ?_); rintro e wa1 ⟨rfl, hb1⟩; have hB1 := Lib.hid (hB0.out.trans (hb1.mono hB0.out.size)); replace HOr3 := Lib.hid (HOr3.out.later hb1); skip) | (go_at_call 34; (with_reducible refine (kit.specAppendEntry _ (.slice yr3 L0.length qr3) L0 a1_0 a1_1 a1_2 a1_3 a1_4 a1_5 a1_6 _ (by omega) HOr3.out).mono ?_); rintro e wz ⟨u9, he, ho9, hb2⟩; rw [HT1.out] at ho9; rw [HT2.out] at he; subst he; have hB9 := Lib.hid (hB1.out.trans (hb2.mono hB1.out.size))))
    all_goals
      go_wp2_with fail
      go_meet
      exact ⟨_, rfl, rfl, ho9.mono hB1.out.size, hB9.out⟩
  case rest =>
    obtain ⟨v9, rfl, rfl, hoE, hb⟩ := hcut
    obtain ⟨yr4, qr4, rfl⟩ := hoE.shape
    replace xpw1_0 := (hb.cell (p := ⟨pw1, 0, none⟩) hpw1).trans xpw1_0
    replace xpw1_1 := (hb.cell (p := ⟨pw1, 1, none⟩) hpw1).trans xpw1_1
    replace xpw1_2 := (hb.cell (p := ⟨pw1, 2, none⟩) hpw1).trans xpw1_2
    replace xpw1_3 := (hb.cell (p := ⟨pw1, 3, none⟩) hpw1).trans xpw1_3
    replace xpw1_4 := (hb.cell (p := ⟨pw1, 4, none⟩) hpw1).trans xpw1_4
    replace xpw1_5 := (hb.cell (p := ⟨pw1, 5, none⟩) hpw1).trans xpw1_5
    replace xpw1_6 := (hb.cell (p := ⟨pw1, 6, none⟩) hpw1).trans xpw1_6
    replace hpw1 := Nat.lt_of_lt_of_le hpw1 hb.size
    replace HB := Lib.hid (HB.out.trans (hb.mono hz))
    replace hz := Nat.le_trans hz hb.size
    have HZwc := Lib.hid hb.size
    replace HA0 := Lib.hid (HA0.out.later hb)
    have HOr4 := Lib.hid hoE
    have HUr4 := Lib.hid hoE.block
    clear hoE
    clear hb
    obtain ⟨w5, rfl⟩ : ∃ W, W = wc := ⟨_, rfl⟩
    go_wp2_with fail
    refine (kit.toEntryS a0 c0 L0 w5 (by omega) HA0.out).mono ?_
    rintro e w6 ⟨u7, rfl, ho, hb⟩
    obtain ⟨yr8, qr8, rfl⟩ := ho.shape
    replace xpw1_0 := (hb.cell (p := ⟨pw1, 0, none⟩) hpw1).trans xpw1_0
    replace xpw1_1 := (hb.cell (p := ⟨pw1, 1, none⟩) hpw1).trans xpw1_1
    replace xpw1_2 := (hb.cell (p := ⟨pw1, 2, none⟩) hpw1).trans xpw1_2
    replace xpw1_3 := (hb.cell (p := ⟨pw1, 3, none⟩) hpw1).trans xpw1_3
    replace xpw1_4 := (hb.cell (p := ⟨pw1, 4, none⟩) hpw1).trans xpw1_4
    replace xpw1_5 := (hb.cell (p := ⟨pw1, 5, none⟩) hpw1).trans xpw1_5
    replace xpw1_6 := (hb.cell (p := ⟨pw1, 6, none⟩) hpw1).trans xpw1_6
    replace hpw1 := Nat.lt_of_lt_of_le hpw1 hb.size
    replace HB := Lib.hid (HB.out.trans (hb.mono hz))
    replace hz := Nat.le_trans hz hb.size
    have HZw6 := Lib.hid hb.size
    replace HOr4 := Lib.hid (HOr4.out.later hb)
    replace HA0 := Lib.hid (HA0.out.later hb)
    have HOr8 := Lib.hid ho
    have HUr8 := Lib.hid ho.block
    clear ho
    clear hb
    go_wp2_with fail
    refine (kit.toEntry7 a1_0 a1_1 a1_2 a1_3 a1_4 a1_5 a1_6 w6).mono ?_
    rintro e w9 ⟨rfl, hb⟩
    replace xpw1_0 := (hb.cell (p := ⟨pw1, 0, none⟩) hpw1).trans xpw1_0
    replace xpw1_1 := (hb.cell (p := ⟨pw1, 1, none⟩) hpw1).trans xpw1_1
    replace xpw1_2 := (hb.cell (p := ⟨pw1, 2, none⟩) hpw1).trans xpw1_2
    replace xpw1_3 := (hb.cell (p := ⟨pw1, 3, none⟩) hpw1).trans xpw1_3
    replace xpw1_4 := (hb.cell (p := ⟨pw1, 4, none⟩) hpw1).trans xpw1_4
    replace xpw1_5 := (hb.cell (p := ⟨pw1, 5, none⟩) hpw1).trans xpw1_5
    replace xpw1_6 := (hb.cell (p := ⟨pw1, 6, none⟩) hpw1).trans xpw1_6
    replace hpw1 := Nat.lt_of_lt_of_le hpw1 hb.size
    replace HB := Lib.hid (HB.out.trans (hb.mono hz))
    replace hz := Nat.le_trans hz hb.size
    have HZw9 := Lib.hid hb.size
    replace HOr4 := Lib.hid (HOr4.out.later hb)
    replace HOr8 := Lib.hid (HOr8.out.later hb)
    replace HA0 := Lib.hid (HA0.out.later hb)
    clear hb
    go_wp2_with fail
    refine (kit.implAppendEntry _ (.slice yr8 L0.length qr8) L0 a1_0 a1_1 a1_2 a1_3 a1_4 a1_5 a1_6 w9 (by omega) HOr8.out).mono ?_
    rintro e w10 ⟨uE, he, hoE, hb⟩
    rw [HT1.out] at hoE
    rw [HT2.out] at he
    obtain ⟨yr11, qr11, rfl⟩ := hoE.shape
    subst he
    replace xpw1_0 := (hb.cell (p := ⟨pw1, 0, none⟩) hpw1).trans xpw1_0
    replace xpw1_1 := (hb.cell (p := ⟨pw1, 1, none⟩) hpw1).trans xpw1_1
    replace xpw1_2 := (hb.cell (p := ⟨pw1, 2, none⟩) hpw1).trans xpw1_2
    replace xpw1_3 := (hb.cell (p := ⟨pw1, 3, none⟩) hpw1).trans xpw1_3
    replace xpw1_4 := (hb.cell (p := ⟨pw1, 4, none⟩) hpw1).trans xpw1_4
    replace xpw1_5 := (hb.cell (p := ⟨pw1, 5, none⟩) hpw1).trans xpw1_5
    replace xpw1_6 := (hb.cell (p := ⟨pw1, 6, none⟩) hpw1).trans xpw1_6
    replace hpw1 := Nat.lt_of_lt_of_le hpw1 hb.size
    replace HB := Lib.hid (HB.out.trans (hb.mono hz))
    replace hz := Nat.le_trans hz hb.size
    have HZw10 := Lib.hid hb.size
    replace HOr4 := Lib.hid (HOr4.out.later hb)
    replace HOr8 := Lib.hid (HOr8.out.later hb)
    replace HA0 := Lib.hid (HA0.out.later hb)
    have HOr11 := Lib.hid hoE
    have HUr11 := Lib.hid hoE.block
    clear hoE
    clear hb
    go_wp2_with fail
    refine (kit.eqEntrySO _ _ (.slice yr11 T1.length qr11) (.slice yr4 T1.length qr4) T1 T1 w10 (by omega) (by omega) HOr11.out HOr4.out).mono ?_
    rintro e w12 ⟨he, hb⟩
    rw [decide_eq_true rfl] at he
    subst he
    replace xpw1_0 := (hb.cell (p := ⟨pw1, 0, none⟩) hpw1).trans xpw1_0
    replace xpw1_1 := (hb.cell (p := ⟨pw1, 1, none⟩) hpw1).trans xpw1_1
    replace xpw1_2 := (hb.cell (p := ⟨pw1, 2, none⟩) hpw1).trans xpw1_2
    replace xpw1_3 := (hb.cell (p := ⟨pw1, 3, none⟩) hpw1).trans xpw1_3
    replace xpw1_4 := (hb.cell (p := ⟨pw1, 4, none⟩) hpw1).trans xpw1_4
    replace xpw1_5 := (hb.cell (p := ⟨pw1, 5, none⟩) hpw1).trans xpw1_5
    replace xpw1_6 := (hb.cell (p := ⟨pw1, 6, none⟩) hpw1).trans xpw1_6
    replace hpw1 := Nat.lt_of_lt_of_le hpw1 hb.size
    replace HB := Lib.hid (HB.out.trans (hb.mono hz))
    replace hz := Nat.le_trans hz hb.size
    have HZw12 := Lib.hid hb.size
    replace HOr4 := Lib.hid (HOr4.out.later hb)
    replace HOr8 := Lib.hid (HOr8.out.later hb)
    replace HOr11 := Lib.hid (HOr11.out.later hb)
    replace HA0 := Lib.hid (HA0.out.later hb)
    clear hb
    go_wp2_with fail
    refine (kit.toEntryS a0 c0 L0 w12 (by omega) HA0.out).mono ?_
    rintro e w13 ⟨u14, rfl, ho, hb⟩
    obtain ⟨yr15, qr15, rfl⟩ := ho.shape
    replace xpw1_0 := (hb.cell (p := ⟨pw1, 0, none⟩) hpw1).trans xpw1_0
    replace xpw1_1 := (hb.cell (p := ⟨pw1, 1, none⟩) hpw1).trans xpw1_1
    replace xpw1_2 := (hb.cell (p := ⟨pw1, 2, none⟩) hpw1).trans xpw1_2
    replace xpw1_3 := (hb.cell (p := ⟨pw1, 3, none⟩) hpw1).trans xpw1_3
    replace xpw1_4 := (hb.cell (p := ⟨pw1, 4, none⟩) hpw1).trans xpw1_4
    replace xpw1_5 := (hb.cell (p := ⟨pw1, 5, none⟩) hpw1).trans xpw1_5
    replace xpw1_6 := (hb.cell (p := ⟨pw1, 6, none⟩) hpw1).trans xpw1_6
    replace hpw1 := Nat.lt_of_lt_of_le hpw1 hb.size
    replace HB := Lib.hid (HB.out.trans (hb.mono hz))
    replace hz := Nat.le_trans hz hb.size
    have HZw13 := Lib.hid hb.size
    replace HOr4 := Lib.hid (HOr4.out.later hb)
    replace HOr8 := Lib.hid (HOr8.out.later hb)
    replace HOr11 := Lib.hid (HOr11.out.later hb)
    replace HA0 := Lib.hid (HA0.out.later hb)
    have HOr15 := Lib.hid ho
    have HUr15 := Lib.hid ho.block
    clear ho
    clear hb
    go_wp2_with fail
    refine (kit.eqEntrySO _ _ (.slice yr8 L0.length qr8) (.slice yr15 L0.length qr15) L0 L0 w13 (by omega) (by omega) HOr8.out HOr15.out).mono ?_
    rintro e w16 ⟨he, hb⟩
    rw [decide_eq_true rfl] at he
    subst he
    replace xpw1_0 := (hb.cell (p := ⟨pw1, 0, none⟩) hpw1).trans xpw1_0
    replace xpw1_1 := (hb.cell (p := ⟨pw1, 1, none⟩) hpw1).trans xpw1_1
    replace xpw1_2 := (hb.cell (p := ⟨pw1, 2, none⟩) hpw1).trans xpw1_2
    replace xpw1_3 := (hb.cell (p := ⟨pw1, 3, none⟩) hpw1).trans xpw1_3
    replace xpw1_4 := (hb.cell (p := ⟨pw1, 4, none⟩) hpw1).trans xpw1_4
    replace xpw1_5 := (hb.cell (p := ⟨pw1, 5, none⟩) hpw1).trans xpw1_5
    replace xpw1_6 := (hb.cell (p := ⟨pw1, 6, none⟩) hpw1).trans xpw1_6
    replace hpw1 := Nat.lt_of_lt_of_le hpw1 hb.size
    replace HB := Lib.hid (HB.out.trans (hb.mono hz))
    replace hz := Nat.le_trans hz hb.size
    have HZw16 := Lib.hid hb.size
    replace HOr4 := Lib.hid (HOr4.out.later hb)
    replace HOr8 := Lib.hid (HOr8.out.later hb)
    replace HOr11 := Lib.hid (HOr11.out.later hb)
    replace HOr15 := Lib.hid (HOr15.out.later hb)
    replace HA0 := Lib.hid (HA0.out.later hb)
    clear hb
    go_wp2_with fail
    refine (kit.markEntryS _ 1 (.slice yr8 L0.length qr8) L0 w16 (by omega) (by omega) (by omega) HOr8.out).mono ?_
    rintro e w17 ⟨rfl, ho, hg1⟩
    have hb : Below w.heap.size w16 w17 := (Below.refl w.heap.size w16).grown hg1 hz (fun g h => by have := HUr8.out g h; have := Epw1.out; have := Sw1.out; have := HZw1.out; have := HZwc.out; have := HZw6.out; have := HZw9.out; have := HZw10.out; have := HZw12.out; have := HZw13.out; have := HZw16.out; omega)
    have hs : w16.heap.size ≤ w17.heap.size := hb.size
    replace xpw1_0 := (World.cell?_of_block (a := ⟨pw1, 0, none⟩) (hg1.block pw1 hpw1 (fun e => by have := HUr8.out _ e.symm; have := Epw1.out; have := Sw1.out; have := HZw1.out; have := HZwc.out; have := HZw6.out; have := HZw9.out; have := HZw10.out; have := HZw12.out; have := HZw13.out; have := HZw16.out; omega))).trans xpw1_0
    replace xpw1_1 := (World.cell?_of_block (a := ⟨pw1, 1, none⟩) (hg1.block pw1 hpw1 (fun e => by have := HUr8.out _ e.symm; have := Epw1.out; have := Sw1.out; have := HZw1.out; have := HZwc.out; have := HZw6.out; have := HZw9.out; have := HZw10.out; have := HZw12.out; have := HZw13.out; have := HZw16.out; omega))).trans xpw1_1
    replace xpw1_2 := (World.cell?_of_block (a := ⟨pw1, 2, none⟩) (hg1.block pw1 hpw1 (fun e => by have := HUr8.out _ e.symm; have := Epw1.out; have := Sw1.out; have := HZw1.out; have := HZwc.out; have := HZw6.out; have := HZw9.out; have := HZw10.out; have := HZw12.out; have := HZw13.out; have := HZw16.out; omega))).trans xpw1_2
    replace xpw1_3 := (World.cell?_of_block (a := ⟨pw1, 3, none⟩) (hg1.block pw1 hpw1 (fun e => by have := HUr8.out _ e.symm; have := Epw1.out; have := Sw1.out; have := HZw1.out; have := HZwc.out; have := HZw6.out; have := HZw9.out; have := HZw10.out; have := HZw12.out; have := HZw13.out; have := HZw16.out; omega))).trans xpw1_3
    replace xpw1_4 := (World.cell?_of_block (a := ⟨pw1, 4, none⟩) (hg1.block pw1 hpw1 (fun e => by have := HUr8.out _ e.symm; have := Epw1.out; have := Sw1.out; have := HZw1.out; have := HZwc.out; have := HZw6.out; have := HZw9.out; have := HZw10.out; have := HZw12.out; have := HZw13.out; have := HZw16.out; omega))).trans xpw1_4
    replace xpw1_5 := (World.cell?_of_block (a := ⟨pw1, 5, none⟩) (hg1.block pw1 hpw1 (fun e => by have := HUr8.out _ e.symm; have := Epw1.out; have := Sw1.out; have := HZw1.out; have := HZwc.out; have := HZw6.out; have := HZw9.out; have := HZw10.out; have := HZw12.out; have := HZw13.out; have := HZw16.out; omega))).trans xpw1_5
    replace xpw1_6 := (World.cell?_of_block (a := ⟨pw1, 6, none⟩) (hg1.block pw1 hpw1 (fun e => by have := HUr8.out _ e.symm; have := Epw1.out; have := Sw1.out; have := HZw1.out; have := HZwc.out; have := HZw6.out; have := HZw9.out; have := HZw10.out; have := HZw12.out; have := HZw13.out; have := HZw16.out; omega))).trans xpw1_6
    replace hpw1 := Nat.lt_of_lt_of_le hpw1 hs
    replace HOr4 := Lib.hid (HOr4.out.marked hg1 (fun g a c => by have h3 := HUr8.out g a; have h4 := HUr4.out g c; have := Epw1.out; have := Sw1.out; have := HZw1.out; have := HZwc.out; have := HZw6.out; have := HZw9.out; have := HZw10.out; have := HZw12.out; have := HZw13.out; have := HZw16.out; omega))
    replace HOr11 := Lib.hid (HOr11.out.marked hg1 (fun g a c => by have h3 := HUr8.out g a; have h4 := HUr11.out g c; have := Epw1.out; have := Sw1.out; have := HZw1.out; have := HZwc.out; have := HZw6.out; have := HZw9.out; have := HZw10.out; have := HZw12.out; have := HZw13.out; have := HZw16.out; omega))
    replace HOr15 := Lib.hid (HOr15.out.marked hg1 (fun g a c => by have h3 := HUr8.out g a; have h4 := HUr15.out g c; have := Epw1.out; have := Sw1.out; have := HZw1.out; have := HZwc.out; have := HZw6.out; have := HZw9.out; have := HZw10.out; have := HZw12.out; have := HZw13.out; have := HZw16.out; omega))
    replace HA0 := Lib.hid (HA0.out.below hb (HA0'.out))
    replace HB := Lib.hid (HB.out.trans hb)
    replace hz := Nat.le_trans hz hs
    have HZw17 := Lib.hid hs
    replace HOr8 := Lib.hid ho
    clear hb hs hg1 ho
    go_wp2_with fail
    refine (kit.eqEntrySO _ _ (.slice yr11 T1.length qr11) (.slice yr4 T1.length qr4) T1 T1 w17 (by omega) (by omega) HOr11.out HOr4.out).mono ?_
    rintro e w18 ⟨he, hb⟩
    rw [decide_eq_true rfl] at he
    subst he
    replace xpw1_0 := (hb.cell (p := ⟨pw1, 0, none⟩) hpw1).trans xpw1_0
    replace xpw1_1 := (hb.cell (p := ⟨pw1, 1, none⟩) hpw1).trans xpw1_1
    replace xpw1_2 := (hb.cell (p := ⟨pw1, 2, none⟩) hpw1).trans xpw1_2
    replace xpw1_3 := (hb.cell (p := ⟨pw1, 3, none⟩) hpw1).trans xpw1_3
    replace xpw1_4 := (hb.cell (p := ⟨pw1, 4, none⟩) hpw1).trans xpw1_4
    replace xpw1_5 := (hb.cell (p := ⟨pw1, 5, none⟩) hpw1).trans xpw1_5
    replace xpw1_6 := (hb.cell (p := ⟨pw1, 6, none⟩) hpw1).trans xpw1_6
    replace hpw1 := Nat.lt_of_lt_of_le hpw1 hb.size
    replace HB := Lib.hid (HB.out.trans (hb.mono hz))
    replace hz := Nat.le_trans hz hb.size
    have HZw18 := Lib.hid hb.size
    replace HOr4 := Lib.hid (HOr4.out.later hb)
    replace HOr8 := Lib.hid (HOr8.out.later hb)
    replace HOr11 := Lib.hid (HOr11.out.later hb)
    replace HOr15 := Lib.hid (HOr15.out.later hb)
    replace HA0 := Lib.hid (HA0.out.later hb)
    clear hb
    go_wp2_with fail
    refine (kit.markEntryS _ 1 (.slice yr11 T1.length qr11) T1 w18 (by omega) (by omega) (by omega) HOr11.out).mono ?_
    rintro e w19 ⟨rfl, ho, hg1⟩
    have hb : Below w.heap.size w18 w19 := (Below.refl w.heap.size w18).grown hg1 hz (fun g h => by have := HUr11.out g h; have := Epw1.out; have := Sw1.out; have := HZw1.out; have := HZwc.out; have := HZw6.out; have := HZw9.out; have := HZw10.out; have := HZw12.out; have := HZw13.out; have := HZw16.out; have := HZw17.out; have := HZw18.out; omega)
    have hs : w18.heap.size ≤ w19.heap.size := hb.size
    replace xpw1_0 := (World.cell?_of_block (a := ⟨pw1, 0, none⟩) (hg1.block pw1 hpw1 (fun e => by have := HUr11.out _ e.symm; have := Epw1.out; have := Sw1.out; have := HZw1.out; have := HZwc.out; have := HZw6.out; have := HZw9.out; have := HZw10.out; have := HZw12.out; have := HZw13.out; have := HZw16.out; have := HZw17.out; have := HZw18.out; omega))).trans xpw1_0
    replace xpw1_1 := (World.cell?_of_block (a := ⟨pw1, 1, none⟩) (hg1.block pw1 hpw1 (fun e => by have := HUr11.out _ e.symm; have := Epw1.out; have := Sw1.out; have := HZw1.out; have := HZwc.out; have := HZw6.out; have := HZw9.out; have := HZw10.out; have := HZw12.out; have := HZw13.out; have := HZw16.out; have := HZw17.out; have := HZw18.out; omega))).trans xpw1_1
    replace xpw1_2 := (World.cell?_of_block (a := ⟨pw1, 2, none⟩) (hg1.block pw1 hpw1 (fun e => by have := HUr11.out _ e.symm; have := Epw1.out; have := Sw1.out; have := HZw1.out; have := HZwc.out; have := HZw6.out; have := HZw9.out; have := HZw10.out; have := HZw12.out; have := HZw13.out; have := HZw16.out; have := HZw17.out; have := HZw18.out; omega))).trans xpw1_2
    replace xpw1_3 := (World.cell?_of_block (a := ⟨pw1, 3, none⟩) (hg1.block pw1 hpw1 (fun e => by have := HUr11.out _ e.symm; have := Epw1.out; have := Sw1.out; have := HZw1.out; have := HZwc.out; have := HZw6.out; have := HZw9.out; have := HZw10.out; have := HZw12.out; have := HZw13.out; have := HZw16.out; have := HZw17.out; have := HZw18.out; omega))).trans xpw1_3
    replace xpw1_4 := (World.cell?_of_block (a := ⟨pw1, 4, none⟩) (hg1.block pw1 hpw1 (fun e => by have := HUr11.out _ e.symm; have := Epw1.out; have := Sw1.out; have := HZw1.out; have := HZwc.out; have := HZw6.out; have := HZw9.out; have := HZw10.out; have := HZw12.out; have := HZw13.out; have := HZw16.out; have := HZw17.out; have := HZw18.out; omega))).trans xpw1_4
    replace xpw1_5 := (World.cell?_of_block (a := ⟨pw1, 5, none⟩) (hg1.block pw1 hpw1 (fun e => by have := HUr11.out _ e.symm; have := Epw1.out; have := Sw1.out; have := HZw1.out; have := HZwc.out; have := HZw6.out; have := HZw9.out; have := HZw10.out; have := HZw12.out; have := HZw13.out; have := HZw16.out; have := HZw17.out; have := HZw18.out; omega))).trans xpw1_5
    replace xpw1_6 := (World.cell?_of_block (a := ⟨pw1, 6, none⟩) (hg1.block pw1 hpw1 (fun e => by have := HUr11.out _ e.symm; have := Epw1.out; have := Sw1.out; have := HZw1.out; have := HZwc.out; have := HZw6.out; have := HZw9.out; have := HZw10.out; have := HZw12.out; have := HZw13.out; have := HZw16.out; have := HZw17.out; have := HZw18.out; omega))).trans xpw1_6
    replace hpw1 := Nat.lt_of_lt_of_le hpw1 hs
    replace HOr4 := Lib.hid (HOr4.out.marked hg1 (fun g a c => by have h3 := HUr11.out g a; have h4 := HUr4.out g c; have := Epw1.out; have := Sw1.out; have := HZw1.out; have := HZwc.out; have := HZw6.out; have := HZw9.out; have := HZw10.out; have := HZw12.out; have := HZw13.out; have := HZw16.out; have := HZw17.out; have := HZw18.out; omega))
    replace HOr8 := Lib.hid (HOr8.out.marked hg1 (fun g a c => by have h3 := HUr11.out g a; have h4 := HUr8.out g c; have := Epw1.out; have := Sw1.out; have := HZw1.out; have := HZwc.out; have := HZw6.out; have := HZw9.out; have := HZw10.out; have := HZw12.out; have := HZw13.out; have := HZw16.out; have := HZw17.out; have := HZw18.out; omega))
    replace HOr15 := Lib.hid (HOr15.out.marked hg1 (fun g a c => by have h3 := HUr11.out g a; have h4 := HUr15.out g c; have := Epw1.out; have := Sw1.out; have := HZw1.out; have := HZwc.out; have := HZw6.out; have := HZw9.out; have := HZw10.out; have := HZw12.out; have := HZw13.out; have := HZw16.out; have := HZw17.out; have := HZw18.out; omega))
    replace HA0 := Lib.hid (HA0.out.below hb (HA0'.out))
    replace HB := Lib.hid (HB.out.trans hb)
    replace hz := Nat.le_trans hz hs
    have HZw19 := Lib.hid hs
    replace HOr11 := Lib.hid ho
    clear hb hs hg1 ho
    go_wp2_with fail
    refine (kit.heldEntryS _ 1 (T1.length) (.slice yr11 T1.length qr11) w19 (by omega) (by omega) (by omega) HOr11.out).mono ?_
    rintro e w20 ⟨rfl, rfl⟩
    go_wp2_with fail
    go_upto_region 24 with (fail)
    go_cut [14, 15] (fun b0 b1 wx => ∃ v, b0 = v ∧ b1 = .bool T2 ∧ kit.OwnE w19.heap.size wx v T1 ∧ Below w19.heap.size w19 wx)
    case first =>
      have hW0 := Lib.hid ((Below.refl w19.heap.size w19).drew)
      go_region_held3 (fun w' => w'.cell? ⟨pw1, 0, none⟩ = some (.int .i64 a1_0) ∧ w'.cell? ⟨pw1, 1, none⟩ = some (.int .i64 a1_1) ∧ w'.cell? ⟨pw1, 2, none⟩ = some (.int .i64 a1_2) ∧ w'.cell? ⟨pw1, 3, none⟩ = some (.int .i64 a1_3) ∧ w'.cell? ⟨pw1, 4, none⟩ = some (.int .i64 a1_4) ∧ w'.cell? ⟨pw1, 5, none⟩ = some (.int .i64 a1_5) ∧ w'.cell? ⟨pw1, 6, none⟩ = some (.int .i64 a1_6))
        (first | (with_reducible assumption) | (with_reducible exact kit.keep7 (by with_reducible assumption) hb2) | (with_reducible exact kit.keep7 (by with_reducible assumption) hb1) | (with_reducible exact kit.keep7 (by with_reducible assumption) hb0) | go_keep)
        (first | (go_at_call 45; (with_reducible refine (kit.toEntryS a0 c0 L0 _ (by omega) (HA0.out.later hW0.out)).mono ?_); rintro e wa0 ⟨u0, rfl, ho, hb0⟩; obtain ⟨yr21, qr21, rfl⟩ := ho.shape; have hB0 := Lib.hid (hW0.out.trans (hb0.mono hW0.out.size)); have HOr21 := Lib.hid ho; clear ho) | (go_at_call 47; (with_reducible refine (kit.toEntry7 a1_0 a1_1 a1_2 a1_3 a1_4 a1_5 a1_6 _).mono ?_); rintro e wa1 ⟨rfl, hb1⟩; have hB1 := Lib.hid (hB0.out.trans (hb1.mono hB0.out.size)); replace HOr21 := Lib.hid (HOr21.out.later hb1); skip) | (go_at_call 33; (with_reducible refine (kit.implAppendEntry _ (.slice yr21 L0.length qr21) L0 a1_0 a1_1 a1_2 a1_3 a1_4 a1_5 a1_6 _ (by omega) HOr21.out).mono ?_); rintro e wz ⟨u9, he, ho9, hb2⟩; rw [HT1.out] at ho9; rw [HT2.out] at he; subst he; have hB9 := Lib.hid (hB1.out.trans (hb2.mono hB1.out.size))))
      all_goals
        go_wp2_with fail
        go_meet
        exact ⟨_, rfl, rfl, ho9.mono hB1.out.size, hB9.out⟩
    case rest =>
      obtain ⟨v9, rfl, rfl, hoE, hb⟩ := hcut
      obtain ⟨yr22, qr22, rfl⟩ := hoE.shape
      replace xpw1_0 := (hb.cell (p := ⟨pw1, 0, none⟩) hpw1).trans xpw1_0
      replace xpw1_1 := (hb.cell (p := ⟨pw1, 1, none⟩) hpw1).trans xpw1_1
      replace xpw1_2 := (hb.cell (p := ⟨pw1, 2, none⟩) hpw1).trans xpw1_2
      replace xpw1_3 := (hb.cell (p := ⟨pw1, 3, none⟩) hpw1).trans xpw1_3
      replace xpw1_4 := (hb.cell (p := ⟨pw1, 4, none⟩) hpw1).trans xpw1_4
      replace xpw1_5 := (hb.cell (p := ⟨pw1, 5, none⟩) hpw1).trans xpw1_5
      replace xpw1_6 := (hb.cell (p := ⟨pw1, 6, none⟩) hpw1).trans xpw1_6
      replace hpw1 := Nat.lt_of_lt_of_le hpw1 hb.size
      replace HB := Lib.hid (HB.out.trans (hb.mono hz))
      replace hz := Nat.le_trans hz hb.size
      have HZwc := Lib.hid hb.size
      replace HOr4 := Lib.hid (HOr4.out.later hb)
      replace HOr8 := Lib.hid (HOr8.out.later hb)
      replace HOr11 := Lib.hid (HOr11.out.later hb)
      replace HOr15 := Lib.hid (HOr15.out.later hb)
      replace HA0 := Lib.hid (HA0.out.later hb)
      have HOr22 := Lib.hid hoE
      have HUr22 := Lib.hid hoE.block
      clear hoE
      clear hb
      obtain ⟨w23, rfl⟩ : ∃ W, W = wc := ⟨_, rfl⟩
      go_wp2_with fail
      refine (kit.eqEntrySO _ _ (.slice yr22 T1.length qr22) (.slice yr4 T1.length qr4) T1 T1 w23 (by omega) (by omega) HOr22.out HOr4.out).mono ?_
      rintro e w24 ⟨he, hb⟩
      rw [decide_eq_true rfl] at he
      subst he
      replace xpw1_0 := (hb.cell (p := ⟨pw1, 0, none⟩) hpw1).trans xpw1_0
      replace xpw1_1 := (hb.cell (p := ⟨pw1, 1, none⟩) hpw1).trans xpw1_1
      replace xpw1_2 := (hb.cell (p := ⟨pw1, 2, none⟩) hpw1).trans xpw1_2
      replace xpw1_3 := (hb.cell (p := ⟨pw1, 3, none⟩) hpw1).trans xpw1_3
      replace xpw1_4 := (hb.cell (p := ⟨pw1, 4, none⟩) hpw1).trans xpw1_4
      replace xpw1_5 := (hb.cell (p := ⟨pw1, 5, none⟩) hpw1).trans xpw1_5
      replace xpw1_6 := (hb.cell (p := ⟨pw1, 6, none⟩) hpw1).trans xpw1_6
      replace hpw1 := Nat.lt_of_lt_of_le hpw1 hb.size
      replace HB := Lib.hid (HB.out.trans (hb.mono hz))
      replace hz := Nat.le_trans hz hb.size
      have HZw24 := Lib.hid hb.size
      replace HOr4 := Lib.hid (HOr4.out.later hb)
      replace HOr8 := Lib.hid (HOr8.out.later hb)
      replace HOr11 := Lib.hid (HOr11.out.later hb)
      replace HOr15 := Lib.hid (HOr15.out.later hb)
      replace HOr22 := Lib.hid (HOr22.out.later hb)
      replace HA0 := Lib.hid (HA0.out.later hb)
      clear hb
      go_wp2_with fail
      refine (kit.heldEntryS _ 1 (T1.length) (.slice yr11 T1.length qr11) w24 (by omega) (by omega) (by omega) HOr11.out).mono ?_
      rintro e w25 ⟨rfl, rfl⟩
      go_wp2_with fail
      go_ret
      exact ⟨rfl, HB.out⟩
set_option maxRecDepth 100000 in
theorem lifted (os : Os) (started : os.Started) (H : Type) (enc : TypeId × Value → H) :
    ReturnsInHanded {} Try.checked os 7 .any (Rows.fnExactAppendEntrySpec.pre6 enc Try.prog Try.f7 Rows.fnExactAppendEntryRow.domain false) (Rows.fnExactAppendEntrySpec.post enc Try.prog Try.f7 false true false false) := by
  refine returnsInHanded_of_change (C := Try.checked) kit.own started (by kernel_rfl) Try.func7
    (ChangeSpec.witness6 (enc := enc) (C := Try.checked) false ⟨#[], #[.slice none 0 0, .agg #[.int .i64 0, .int .i64 0, .int .i64 0, .int .i64 0, .int .i64 0, .int .i64 0, .int .i64 0]], []⟩ 8 (by kernel_rfl) (by kernel_rfl) (by kernel_rfl) (by kernel_rfl)) ?_
  intro W base args ds gs before hval0 hW hcnd _
  have hval : ∀ (j : Nat) t v, Try.f7.params[j]? = some t → args[j]? = some v → Value.okWide Try.prog W .any base t v := hval0
  have hW' := hW
  obtain ⟨p, q, hA0, hV, rfl, hfz, hnd⟩ := hW
  have hA : DataW.TrodAll enc Try.prog W 0 (fun _ => true) true Try.f7.params.toList args.toList ds p := hA0
  rw [Try.params7] at hA hval
  obtain ⟨v0, vs0, d0, ds0, p0, q0, hargs, rfl, rfl, h0, r0⟩ := trodAll_cons hA
  obtain ⟨v1, vs1, d1, ds1, p1, q1, rfl, rfl, rfl, h1, r1⟩ := trodAll_cons r0
  obtain ⟨rfl, rfl, rfl⟩ := trodAll_nil r1
  obtain rfl : args = #[v0, v1] := by cases args; simp_all
  obtain ⟨rfl, rfl⟩ := trodVars_none hV
  have k0 := h0
  have lt0 : ∀ x ∈ p0, x.block < W.heap.size := by obtain ⟨m, hm⟩ := k0; exact DataW.trod_lt m _ _ _ hm
  obtain ⟨a0, len0, cap0, rfl⟩ := okWide_slice Try.underlying72 (hval 0 72 v0 rfl rfl)
  obtain ⟨a0', c0, L0, he0, wa0, wl0⟩ := kit.open_entV h0 lt0 rfl
  injection he0 with he0a he0b he0c
  subst he0a he0b he0c
  have k1 := h1
  have lt1 : ∀ x ∈ p1, x.block < W.heap.size := by obtain ⟨m, hm⟩ := k1; exact DataW.trod_lt m _ _ _ hm
  obtain ⟨x1_0, x1_1, x1_2, x1_3, x1_4, x1_5, x1_6, rfl⟩ := kit.open_entW (hval 1 77 v1 rfl rfl) h1
  clear hA0 hval0
  refine (walk _ _ L0 x1_0 x1_1 x1_2 x1_3 x1_4 x1_5 x1_6 W wa0 wl0).mono fun e W' ⟨he, bel⟩ => ?_
  subst he
  exact ⟨_, rfl, _, _, _, [], _, [], hW', trodAll_mk1 (shut_bool Try.underlying4 _), (trodAll_cons_mk (Below.trod kit.laidOut (by kernel_rfl) (of_decide_eq_true (by kernel_rfl)) k0 bel lt0) (trodAll_cons_mk (Below.trod kit.laidOut (by kernel_rfl) (of_decide_eq_true (by kernel_rfl)) k1 bel lt1) trodAll_mk0)), rfl, bel.frame _, fun h => by cases h⟩

theorem proved : Rows.FnExactAppendEntrySaid :=
  OpenClaim.holds_of_wide 7 Try.f7 rfl rfl rfl rfl rfl rfl rfl ⟨rfl, rfl, rfl, rfl, rfl⟩ rfl rfl rfl rfl rfl (by kernel_rfl) Try.func7 (by kernel_rfl)
    (of_decide_eq_true (by kernel_rfl)) (by unfold Func.isWrapper; first | (rw [if_pos (by decide +kernel)]; kernel_rfl) | (rw [if_neg (by decide +kernel)]; exact ⟨rfl, rfl⟩))
    (fun os started H enc _ => lifted os started H enc)
end Go.Proofs.Ytiibhecegnbcnaa.fnExactAppendEntry
