/-
  For every Acceptor (the law passes over those with more than 2^20 elements), impl's IsValidAcceptor returns the same bool as the specification's and leaves its argument as it was: the law returns true and changes nothing that was there. No condition.
-/
import Derived.Test.YtgjebjoaemeeoaaS10Valid
import Derived.Test.YtgjebjoaemeeoaaAcc
import Derived.Deep.RegionWith
import Derived.Deep.DeepCutAuto
namespace Go.Proofs.Ytgjebjoaemeeoaa.fnExactIsValidAcceptor
open Go.ChangeShapes Go.WideShapes Go.ChangeAt Go.RowKit
open Go.ChangeMaps (open_string shut_string)
set_option linter.unusedVariables false

set_option maxRecDepth 100000 in
set_option maxHeartbeats 16000000 in
theorem walk (x0 y0 s0 t0 : Int) (a0 : Option Addr) (c0 : Nat) (L0 : List Int) (b0 : Option Addr) (d0 : Nat) (M0 : List Int) (w : World) (wa0 : kit.At w a0 L0) (wb0 : kit.At w b0 M0) (wl0 : L0.length ≤ maxLen) (wm0 : M0.length ≤ maxLen) :
    Calls Try.prog 4 #[.agg #[.int .i64 x0, .int .i64 y0, .int .i64 s0, .int .i64 t0, .slice a0 L0.length c0, .slice b0 M0.length d0]] w fun e w' => e = .returned (.bool true) ∧ Below w.heap.size w w' := by
  unfold maxLen at wl0 wm0
  have HA0' := Lib.hid (kit.at_low wa0)
  have HM0' := Lib.hid (kit.at_low wb0)
  have HA0 := Lib.hid wa0
  have HM0 := Lib.hid wb0
  clear wa0 wb0
  have HB := Lib.hid (Below.refl w.heap.size w)
  have hz : w.heap.size ≤ w.heap.size := Nat.le_refl _
  go_enter Try.func4, Try.ntmps4
  go_wp2_with fail
  obtain ⟨w1, hw1⟩ : ∃ W, W = w.alloc (.cells #[.int .i64 x0, .int .i64 y0, .int .i64 s0, .int .i64 t0, .slice a0 L0.length c0, .slice b0 M0.length d0] 41) := ⟨_, rfl⟩
  rw [← hw1]
  obtain ⟨pw1, epw1⟩ : ∃ p, p = w.heap.size := ⟨_, rfl⟩
  rw [← epw1]
  have Epw1 := Lib.hid epw1
  have epw1' := Epw1.out
  clear epw1
  have xpw1_0 : w1.cell? ⟨pw1, 0, none⟩ = some (.int .i64 x0) := by rw [hw1, epw1', World.cell?_alloc_at _ _ _ _ rfl]; rfl
  have xpw1_1 : w1.cell? ⟨pw1, 1, none⟩ = some (.int .i64 y0) := by rw [hw1, epw1', World.cell?_alloc_at _ _ _ _ rfl]; rfl
  have xpw1_2 : w1.cell? ⟨pw1, 2, none⟩ = some (.int .i64 s0) := by rw [hw1, epw1', World.cell?_alloc_at _ _ _ _ rfl]; rfl
  have xpw1_3 : w1.cell? ⟨pw1, 3, none⟩ = some (.int .i64 t0) := by rw [hw1, epw1', World.cell?_alloc_at _ _ _ _ rfl]; rfl
  have xpw1_4 : w1.cell? ⟨pw1, 4, none⟩ = some (.slice a0 L0.length c0) := by rw [hw1, epw1', World.cell?_alloc_at _ _ _ _ rfl]; rfl
  have xpw1_5 : w1.cell? ⟨pw1, 5, none⟩ = some (.slice b0 M0.length d0) := by rw [hw1, epw1', World.cell?_alloc_at _ _ _ _ rfl]; rfl
  have hpw1 : pw1 < w1.heap.size := by rw [hw1, epw1', World.size_alloc]; exact Nat.lt_succ_self _
  have hb : Below w.heap.size w w1 := by rw [hw1]; exact (Below.refl _ _).alloc (Nat.le_refl _) _
  have Sw1 := Lib.hid (show w1.heap.size = w.heap.size + 1 by rw [hw1, World.size_alloc])
  replace HB := Lib.hid (HB.out.trans (hb.mono hz))
  replace hz := Nat.le_trans hz hb.size
  have HZw1 := Lib.hid hb.size
  replace HA0 := Lib.hid (HA0.out.later hb)
  replace HM0 := Lib.hid (HM0.out.later hb)
  clear hb
  clear epw1' hw1
  refine (kit.szAcceptor x0 y0 s0 t0 a0 L0.length c0 b0 M0.length d0 (1048576) w1 (by omega) (by omega) (by omega) (by omega)).mono ?_
  rintro e w2 ⟨rfl, hb⟩
  replace xpw1_0 := (hb.cell (p := ⟨pw1, 0, none⟩) hpw1).trans xpw1_0
  replace xpw1_1 := (hb.cell (p := ⟨pw1, 1, none⟩) hpw1).trans xpw1_1
  replace xpw1_2 := (hb.cell (p := ⟨pw1, 2, none⟩) hpw1).trans xpw1_2
  replace xpw1_3 := (hb.cell (p := ⟨pw1, 3, none⟩) hpw1).trans xpw1_3
  replace xpw1_4 := (hb.cell (p := ⟨pw1, 4, none⟩) hpw1).trans xpw1_4
  replace xpw1_5 := (hb.cell (p := ⟨pw1, 5, none⟩) hpw1).trans xpw1_5
  replace hpw1 := Nat.lt_of_lt_of_le hpw1 hb.size
  replace HB := Lib.hid (HB.out.trans (hb.mono hz))
  replace hz := Nat.le_trans hz hb.size
  have HZw2 := Lib.hid hb.size
  replace HA0 := Lib.hid (HA0.out.later hb)
  replace HM0 := Lib.hid (HM0.out.later hb)
  clear hb
  by_cases hs1 : ¬ (L0.length : Int) + (M0.length : Int) ≤ 1048576
  · rw [show kit.left (1048576) L0.length M0.length = -1 from if_neg hs1]
    go_wp2_with fail
    go_ret
    exact ⟨rfl, HB.out⟩
  replace hs1 := Decidable.not_not.1 hs1
  rw [show kit.left (1048576) L0.length M0.length = 1048576 - (L0.length : Int) - (M0.length : Int) from if_pos hs1]
  go_wp2_with fail
  refine (kit.toAcceptor x0 y0 s0 t0 a0 c0 L0 b0 d0 M0 w2 (by omega) (by omega) HA0.out HM0.out).mono ?_
  rintro e w3 ⟨u4I, u4S, rfl, hoI, hoS, hb, hap⟩
  obtain ⟨yr5, qr5, rfl⟩ := hoI.shape
  obtain ⟨yr6, qr6, rfl⟩ := hoS.shape
  have HPr5 := Lib.hid hap
  clear hap
  replace xpw1_0 := (hb.cell (p := ⟨pw1, 0, none⟩) hpw1).trans xpw1_0
  replace xpw1_1 := (hb.cell (p := ⟨pw1, 1, none⟩) hpw1).trans xpw1_1
  replace xpw1_2 := (hb.cell (p := ⟨pw1, 2, none⟩) hpw1).trans xpw1_2
  replace xpw1_3 := (hb.cell (p := ⟨pw1, 3, none⟩) hpw1).trans xpw1_3
  replace xpw1_4 := (hb.cell (p := ⟨pw1, 4, none⟩) hpw1).trans xpw1_4
  replace xpw1_5 := (hb.cell (p := ⟨pw1, 5, none⟩) hpw1).trans xpw1_5
  replace hpw1 := Nat.lt_of_lt_of_le hpw1 hb.size
  replace HB := Lib.hid (HB.out.trans (hb.mono hz))
  replace hz := Nat.le_trans hz hb.size
  have HZw3 := Lib.hid hb.size
  replace HA0 := Lib.hid (HA0.out.later hb)
  replace HM0 := Lib.hid (HM0.out.later hb)
  have HOr5 := Lib.hid hoI
  have HUr5 := Lib.hid hoI.block
  clear hoI
  have HOr6 := Lib.hid hoS
  have HUr6 := Lib.hid hoS.block
  clear hoS
  clear hb
  go_wp2_with fail
  refine (kit.specIsValidAcceptor x0 y0 s0 t0 _ _ (.slice yr5 L0.length qr5) (.slice yr6 M0.length qr6) L0 M0 w3 (by omega) (by omega) HOr5.out HOr6.out).mono ?_
  rintro e w7 ⟨he, hb⟩
  generalize hT1 : kit.accOk x0 y0 s0 t0 L0 M0 = T1 at he
  have HT1 := Lib.hid hT1
  clear hT1
  subst he
  replace xpw1_0 := (hb.cell (p := ⟨pw1, 0, none⟩) hpw1).trans xpw1_0
  replace xpw1_1 := (hb.cell (p := ⟨pw1, 1, none⟩) hpw1).trans xpw1_1
  replace xpw1_2 := (hb.cell (p := ⟨pw1, 2, none⟩) hpw1).trans xpw1_2
  replace xpw1_3 := (hb.cell (p := ⟨pw1, 3, none⟩) hpw1).trans xpw1_3
  replace xpw1_4 := (hb.cell (p := ⟨pw1, 4, none⟩) hpw1).trans xpw1_4
  replace xpw1_5 := (hb.cell (p := ⟨pw1, 5, none⟩) hpw1).trans xpw1_5
  replace hpw1 := Nat.lt_of_lt_of_le hpw1 hb.size
  replace HB := Lib.hid (HB.out.trans (hb.mono hz))
  replace hz := Nat.le_trans hz hb.size
  have HZw7 := Lib.hid hb.size
  replace HOr5 := Lib.hid (HOr5.out.later hb)
  replace HOr6 := Lib.hid (HOr6.out.later hb)
  replace HA0 := Lib.hid (HA0.out.later hb)
  replace HM0 := Lib.hid (HM0.out.later hb)
  clear hb
  go_wp2_with fail
  refine (kit.toAcceptor x0 y0 s0 t0 a0 c0 L0 b0 d0 M0 w7 (by omega) (by omega) HA0.out HM0.out).mono ?_
  rintro e w8 ⟨u9I, u9S, rfl, hoI, hoS, hb, hap⟩
  obtain ⟨yr10, qr10, rfl⟩ := hoI.shape
  obtain ⟨yr11, qr11, rfl⟩ := hoS.shape
  have HPr10 := Lib.hid hap
  clear hap
  replace xpw1_0 := (hb.cell (p := ⟨pw1, 0, none⟩) hpw1).trans xpw1_0
  replace xpw1_1 := (hb.cell (p := ⟨pw1, 1, none⟩) hpw1).trans xpw1_1
  replace xpw1_2 := (hb.cell (p := ⟨pw1, 2, none⟩) hpw1).trans xpw1_2
  replace xpw1_3 := (hb.cell (p := ⟨pw1, 3, none⟩) hpw1).trans xpw1_3
  replace xpw1_4 := (hb.cell (p := ⟨pw1, 4, none⟩) hpw1).trans xpw1_4
  replace xpw1_5 := (hb.cell (p := ⟨pw1, 5, none⟩) hpw1).trans xpw1_5
  replace hpw1 := Nat.lt_of_lt_of_le hpw1 hb.size
  replace HB := Lib.hid (HB.out.trans (hb.mono hz))
  replace hz := Nat.le_trans hz hb.size
  have HZw8 := Lib.hid hb.size
  replace HOr5 := Lib.hid (HOr5.out.later hb)
  replace HOr6 := Lib.hid (HOr6.out.later hb)
  replace HA0 := Lib.hid (HA0.out.later hb)
  replace HM0 := Lib.hid (HM0.out.later hb)
  have HOr10 := Lib.hid hoI
  have HUr10 := Lib.hid hoI.block
  clear hoI
  have HOr11 := Lib.hid hoS
  have HUr11 := Lib.hid hoS.block
  clear hoS
  clear hb
  go_wp2_with fail
  obtain ⟨w12, hw12⟩ : ∃ W, W = w8.alloc (.cells #[.int .i64 x0, .int .i64 y0, .int .i64 s0, .int .i64 t0, .slice yr10 L0.length qr10, .slice yr11 M0.length qr11] 28) := ⟨_, rfl⟩
  rw [← hw12]
  obtain ⟨pw12, epw12⟩ : ∃ p, p = w8.heap.size := ⟨_, rfl⟩
  rw [← epw12]
  have Epw12 := Lib.hid epw12
  have epw12' := Epw12.out
  clear epw12
  have xpw12_0 : w12.cell? ⟨pw12, 0, none⟩ = some (.int .i64 x0) := by rw [hw12, epw12', World.cell?_alloc_at _ _ _ _ rfl]; rfl
  have xpw12_1 : w12.cell? ⟨pw12, 1, none⟩ = some (.int .i64 y0) := by rw [hw12, epw12', World.cell?_alloc_at _ _ _ _ rfl]; rfl
  have xpw12_2 : w12.cell? ⟨pw12, 2, none⟩ = some (.int .i64 s0) := by rw [hw12, epw12', World.cell?_alloc_at _ _ _ _ rfl]; rfl
  have xpw12_3 : w12.cell? ⟨pw12, 3, none⟩ = some (.int .i64 t0) := by rw [hw12, epw12', World.cell?_alloc_at _ _ _ _ rfl]; rfl
  have xpw12_4 : w12.cell? ⟨pw12, 4, none⟩ = some (.slice yr10 L0.length qr10) := by rw [hw12, epw12', World.cell?_alloc_at _ _ _ _ rfl]; rfl
  have xpw12_5 : w12.cell? ⟨pw12, 5, none⟩ = some (.slice yr11 M0.length qr11) := by rw [hw12, epw12', World.cell?_alloc_at _ _ _ _ rfl]; rfl
  have hpw12 : pw12 < w12.heap.size := by rw [hw12, epw12', World.size_alloc]; exact Nat.lt_succ_self _
  have hb : Below w8.heap.size w8 w12 := by rw [hw12]; exact (Below.refl _ _).alloc (Nat.le_refl _) _
  have Sw12 := Lib.hid (show w12.heap.size = w8.heap.size + 1 by rw [hw12, World.size_alloc])
  replace xpw1_0 := (hb.cell (p := ⟨pw1, 0, none⟩) hpw1).trans xpw1_0
  replace xpw1_1 := (hb.cell (p := ⟨pw1, 1, none⟩) hpw1).trans xpw1_1
  replace xpw1_2 := (hb.cell (p := ⟨pw1, 2, none⟩) hpw1).trans xpw1_2
  replace xpw1_3 := (hb.cell (p := ⟨pw1, 3, none⟩) hpw1).trans xpw1_3
  replace xpw1_4 := (hb.cell (p := ⟨pw1, 4, none⟩) hpw1).trans xpw1_4
  replace xpw1_5 := (hb.cell (p := ⟨pw1, 5, none⟩) hpw1).trans xpw1_5
  replace hpw1 := Nat.lt_of_lt_of_le hpw1 hb.size
  replace HB := Lib.hid (HB.out.trans (hb.mono hz))
  replace hz := Nat.le_trans hz hb.size
  have HZw12 := Lib.hid hb.size
  replace HOr5 := Lib.hid (HOr5.out.later hb)
  replace HOr6 := Lib.hid (HOr6.out.later hb)
  replace HOr10 := Lib.hid (HOr10.out.later hb)
  replace HOr11 := Lib.hid (HOr11.out.later hb)
  replace HA0 := Lib.hid (HA0.out.later hb)
  replace HM0 := Lib.hid (HM0.out.later hb)
  clear hb
  clear epw12' hw12
  refine (kit.implIsValidAcceptor x0 y0 s0 t0 _ _ (.slice yr10 L0.length qr10) (.slice yr11 M0.length qr11) L0 M0 w12 (by omega) (by omega) HOr10.out HOr11.out).mono ?_
  rintro e w13 ⟨he, hb⟩
  rw [HT1.out] at he
  subst he
  replace xpw1_0 := (hb.cell (p := ⟨pw1, 0, none⟩) hpw1).trans xpw1_0
  replace xpw1_1 := (hb.cell (p := ⟨pw1, 1, none⟩) hpw1).trans xpw1_1
  replace xpw1_2 := (hb.cell (p := ⟨pw1, 2, none⟩) hpw1).trans xpw1_2
  replace xpw1_3 := (hb.cell (p := ⟨pw1, 3, none⟩) hpw1).trans xpw1_3
  replace xpw1_4 := (hb.cell (p := ⟨pw1, 4, none⟩) hpw1).trans xpw1_4
  replace xpw1_5 := (hb.cell (p := ⟨pw1, 5, none⟩) hpw1).trans xpw1_5
  replace hpw1 := Nat.lt_of_lt_of_le hpw1 hb.size
  replace xpw12_0 := (hb.cell (p := ⟨pw12, 0, none⟩) hpw12).trans xpw12_0
  replace xpw12_1 := (hb.cell (p := ⟨pw12, 1, none⟩) hpw12).trans xpw12_1
  replace xpw12_2 := (hb.cell (p := ⟨pw12, 2, none⟩) hpw12).trans xpw12_2
  replace xpw12_3 := (hb.cell (p := ⟨pw12, 3, none⟩) hpw12).trans xpw12_3
  replace xpw12_4 := (hb.cell (p := ⟨pw12, 4, none⟩) hpw12).trans xpw12_4
  replace xpw12_5 := (hb.cell (p := ⟨pw12, 5, none⟩) hpw12).trans xpw12_5
  replace hpw12 := Nat.lt_of_lt_of_le hpw12 hb.size
  replace HB := Lib.hid (HB.out.trans (hb.mono hz))
  replace hz := Nat.le_trans hz hb.size
  have HZw13 := Lib.hid hb.size
  replace HOr5 := Lib.hid (HOr5.out.later hb)
  replace HOr6 := Lib.hid (HOr6.out.later hb)
  replace HOr10 := Lib.hid (HOr10.out.later hb)
  replace HOr11 := Lib.hid (HOr11.out.later hb)
  replace HA0 := Lib.hid (HA0.out.later hb)
  replace HM0 := Lib.hid (HM0.out.later hb)
  clear hb
  go_wp2_with fail
  go_upto_region 10 with (fail)
  go_cut [26] (fun b wx => b = .bool false ∧ Below w13.heap.size w13 wx)
  case first =>
    have hW0 := (Below.refl w13.heap.size w13).drew
    go_region_with (first | (go_at_call 20; (with_reducible refine (kit.toAcceptor x0 y0 s0 t0 a0 c0 L0 b0 d0 M0 _ (by omega) (by omega) (HA0.out.later hW0) (HM0.out.later hW0)).mono ?_); rintro e wa ⟨uI, uS, rfl, hoI, hoS, hb, hap⟩; obtain ⟨ya, qa, rfl⟩ := hoI.shape; obtain ⟨yb, qb, rfl⟩ := hoS.shape; have hB0 := hW0.trans (hb.mono hW0.size); have xpw1_0 := (hB0.cell (p := ⟨pw1, 0, none⟩) hpw1).trans xpw1_0; have xpw1_1 := (hB0.cell (p := ⟨pw1, 1, none⟩) hpw1).trans xpw1_1; have xpw1_2 := (hB0.cell (p := ⟨pw1, 2, none⟩) hpw1).trans xpw1_2; have xpw1_3 := (hB0.cell (p := ⟨pw1, 3, none⟩) hpw1).trans xpw1_3; have xpw1_4 := (hB0.cell (p := ⟨pw1, 4, none⟩) hpw1).trans xpw1_4; have xpw1_5 := (hB0.cell (p := ⟨pw1, 5, none⟩) hpw1).trans xpw1_5; have xpw12_0 := (hB0.cell (p := ⟨pw12, 0, none⟩) hpw12).trans xpw12_0; have xpw12_1 := (hB0.cell (p := ⟨pw12, 1, none⟩) hpw12).trans xpw12_1; have xpw12_2 := (hB0.cell (p := ⟨pw12, 2, none⟩) hpw12).trans xpw12_2; have xpw12_3 := (hB0.cell (p := ⟨pw12, 3, none⟩) hpw12).trans xpw12_3; have xpw12_4 := (hB0.cell (p := ⟨pw12, 4, none⟩) hpw12).trans xpw12_4; have xpw12_5 := (hB0.cell (p := ⟨pw12, 5, none⟩) hpw12).trans xpw12_5; clear hb) | (go_at_call 21; refine (kit.eqAcceptorO x0 y0 s0 t0 _ _ (.slice yr10 L0.length qr10) (.slice yr11 M0.length qr11) L0 M0 x0 y0 s0 t0 _ _ (.slice ya L0.length qa) (.slice yb M0.length qb) L0 M0 _ (by omega) (by omega) (HOr10.out.later hB0) (HOr11.out.later hB0) (by omega) (by omega) hoI hoS).mono ?_; rintro e wz ⟨he, hb⟩; rw [decide_eq_true ⟨rfl, rfl, rfl, rfl, rfl, rfl⟩] at he; subst he; have hB9 := hB0.trans (hb.mono hB0.size); clear hb))
    all_goals
      go_wp2_with fail
      go_meet
      exact ⟨rfl, hB9⟩
  case rest =>
    obtain ⟨rfl, hb⟩ := hcut
    replace xpw1_0 := (hb.cell (p := ⟨pw1, 0, none⟩) hpw1).trans xpw1_0
    replace xpw1_1 := (hb.cell (p := ⟨pw1, 1, none⟩) hpw1).trans xpw1_1
    replace xpw1_2 := (hb.cell (p := ⟨pw1, 2, none⟩) hpw1).trans xpw1_2
    replace xpw1_3 := (hb.cell (p := ⟨pw1, 3, none⟩) hpw1).trans xpw1_3
    replace xpw1_4 := (hb.cell (p := ⟨pw1, 4, none⟩) hpw1).trans xpw1_4
    replace xpw1_5 := (hb.cell (p := ⟨pw1, 5, none⟩) hpw1).trans xpw1_5
    replace hpw1 := Nat.lt_of_lt_of_le hpw1 hb.size
    replace xpw12_0 := (hb.cell (p := ⟨pw12, 0, none⟩) hpw12).trans xpw12_0
    replace xpw12_1 := (hb.cell (p := ⟨pw12, 1, none⟩) hpw12).trans xpw12_1
    replace xpw12_2 := (hb.cell (p := ⟨pw12, 2, none⟩) hpw12).trans xpw12_2
    replace xpw12_3 := (hb.cell (p := ⟨pw12, 3, none⟩) hpw12).trans xpw12_3
    replace xpw12_4 := (hb.cell (p := ⟨pw12, 4, none⟩) hpw12).trans xpw12_4
    replace xpw12_5 := (hb.cell (p := ⟨pw12, 5, none⟩) hpw12).trans xpw12_5
    replace hpw12 := Nat.lt_of_lt_of_le hpw12 hb.size
    replace HB := Lib.hid (HB.out.trans (hb.mono hz))
    replace hz := Nat.le_trans hz hb.size
    have HZwc := Lib.hid hb.size
    replace HOr5 := Lib.hid (HOr5.out.later hb)
    replace HOr6 := Lib.hid (HOr6.out.later hb)
    replace HOr10 := Lib.hid (HOr10.out.later hb)
    replace HOr11 := Lib.hid (HOr11.out.later hb)
    replace HA0 := Lib.hid (HA0.out.later hb)
    replace HM0 := Lib.hid (HM0.out.later hb)
    clear hb
    obtain ⟨w14, rfl⟩ : ∃ W, W = wc := ⟨_, rfl⟩
    go_wp2_with fail
    go_ret
    exact ⟨rfl, HB.out⟩
set_option maxRecDepth 100000 in
theorem lifted (os : Os) (started : os.Started) (H : Type) (enc : TypeId × Value → H) :
    ReturnsInHanded {} Try.checked os 4 .any (Rows.fnExactIsValidAcceptorSpec.pre6 enc Try.prog Try.f4 Rows.fnExactIsValidAcceptorRow.domain false) (Rows.fnExactIsValidAcceptorSpec.post enc Try.prog Try.f4 false true false false) := by
  refine returnsInHanded_of_change (C := Try.checked) kit.own started (by kernel_rfl) Try.func4
    (ChangeSpec.witness6 (enc := enc) (C := Try.checked) false ⟨#[], #[.agg #[.int .i64 0, .int .i64 0, .int .i64 0, .int .i64 0, .slice none 0 0, .slice none 0 0]], []⟩ 8 (by kernel_rfl) (by kernel_rfl) (by kernel_rfl) (by kernel_rfl)) ?_
  intro W base args ds gs before hval0 hW hcnd _
  have hval : ∀ (j : Nat) t v, Try.f4.params[j]? = some t → args[j]? = some v → Value.okWide Try.prog W .any base t v := hval0
  have hW' := hW
  obtain ⟨p, q, hA0, hV, rfl, hfz, hnd⟩ := hW
  have hA : DataW.TrodAll enc Try.prog W 0 (fun _ => true) true Try.f4.params.toList args.toList ds p := hA0
  rw [Try.params4] at hA hval
  obtain ⟨v0, vs0, d0, ds0, p0, q0, hargs, rfl, rfl, h0, r0⟩ := trodAll_cons hA
  obtain ⟨rfl, rfl, rfl⟩ := trodAll_nil r0
  obtain rfl : args = #[v0] := by cases args; simp_all
  obtain ⟨rfl, rfl⟩ := trodVars_none hV
  have k0 := h0
  have lt0 : ∀ x ∈ p0, x.block < W.heap.size := by obtain ⟨m, hm⟩ := k0; exact DataW.trod_lt m _ _ _ hm
  obtain ⟨x0, y0, s0, t0, a0, c0, L0, b0, e0, M0, rfl, wa0, wb0, wl0, wm0⟩ := kit.open_acceptor (hval 0 41 v0 rfl rfl) h0 lt0
  clear hA0 hval0
  refine (walk x0 y0 s0 t0 a0 c0 L0 b0 e0 M0 W wa0 wb0 wl0 wm0).mono fun e W' ⟨he, bel⟩ => ?_
  subst he
  exact ⟨_, rfl, _, _, _, [], _, [], hW', trodAll_mk1 (shut_bool Try.underlying4 _), (trodAll_cons_mk (Below.trod kit.laidOut (by kernel_rfl) (of_decide_eq_true (by kernel_rfl)) k0 bel lt0) trodAll_mk0), rfl, bel.frame _, fun h => by cases h⟩

theorem proved : Rows.FnExactIsValidAcceptorSaid :=
  OpenClaim.holds_of_wide 4 Try.f4 rfl rfl rfl rfl rfl rfl rfl ⟨rfl, rfl, rfl, rfl, rfl⟩ rfl rfl rfl rfl rfl (by kernel_rfl) Try.func4 (by kernel_rfl)
    (of_decide_eq_true (by kernel_rfl)) (by unfold Func.isWrapper; first | (rw [if_pos (by decide +kernel)]; kernel_rfl) | (rw [if_neg (by decide +kernel)]; exact ⟨rfl, rfl⟩))
    (fun os started H enc _ => lifted os started H enc)
end Go.Proofs.Ytgjebjoaemeeoaa.fnExactIsValidAcceptor
