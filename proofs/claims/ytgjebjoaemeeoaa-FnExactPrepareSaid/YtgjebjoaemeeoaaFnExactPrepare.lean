/-
  For every Acceptor (the law passes over those with more than 2^20 elements) and every int, impl's Prepare returns the same Acceptor and bool as the specification's, in memory of its own, and leaves its argument as it was: the law returns true and changes nothing that was there. No condition.
-/
import Derived.Test.YtgjebjoaemeeoaaS10Impl
import Derived.Test.YtgjebjoaemeeoaaS10Spec
import Derived.Test.YtgjebjoaemeeoaaAcc
import Derived.Deep.RegionWith
import Derived.Deep.DeepCutAuto
namespace Go.Proofs.Ytgjebjoaemeeoaa.fnExactPrepare
open Go.ChangeShapes Go.WideShapes Go.ChangeAt Go.RowKit
open Go.ChangeMaps (open_string shut_string)
set_option linter.unusedVariables false

set_option maxRecDepth 100000 in
set_option maxHeartbeats 16000000 in
theorem walk (x0 y0 s0 t0 : Int) (a0 : Option Addr) (c0 : Nat) (L0 : List Int) (b0 : Option Addr) (d0 : Nat) (M0 : List Int) (a1 : Int) (w : World) (wa0 : kit.At w a0 L0) (wb0 : kit.At w b0 M0) (wl0 : L0.length ≤ maxLen) (wm0 : M0.length ≤ maxLen) (w1 : (Lit.int .i64 a1).wf = true) :
    Calls Try.prog 5 #[.agg #[.int .i64 x0, .int .i64 y0, .int .i64 s0, .int .i64 t0, .slice a0 L0.length c0, .slice b0 M0.length d0], .int .i64 a1] w fun e w' => e = .returned (.bool true) ∧ Below w.heap.size w w' := by
  unfold maxLen at wl0 wm0
  have HA0' := Lib.hid (kit.at_low wa0)
  have HM0' := Lib.hid (kit.at_low wb0)
  have HA0 := Lib.hid wa0
  have HM0 := Lib.hid wb0
  clear wa0 wb0
  have HB := Lib.hid (Below.refl w.heap.size w)
  have hz : w.heap.size ≤ w.heap.size := Nat.le_refl _
  go_enter Try.func5, Try.ntmps5
  go_wp2_with fail
  obtain ⟨w1, hw1⟩ : ∃ W, W = w.alloc (.cells #[.int .i64 x0, .int .i64 y0, .int .i64 s0, .int .i64 t0, .slice a0 L0.length c0, .slice b0 M0.length d0] 41) := ⟨_, rfl⟩
  rw [← hw1]
  obtain ⟨pw1, epw1⟩ : ∃ p, p = w.heap.size := ⟨_, rfl⟩
  rw [← epw1]
  have Epw1 := Lib.hid epw1
  have epw1' := Epw1.out
  clear epw1
  have xpw1_0 : w1.cell? ⟨pw1, 0, none⟩ = some (.int .i64 x0) := by rw [hw1, epw1', World.cell?_alloc_at _ _ _ _ rfl]; rfl
  have xpw1_1 : w1.cell? ⟨pw1, 1, none⟩ = some (.int .i64 y0) := by rw [hw1, epw1', World.cell?_alloc_at _ _ _ _ rfl]; rfl
  have xpw1_2 : w1.cell? ⟨pw1, 2, none⟩ = some (.int .i64 s0) := by rw [hw1, epw1', World.cell?_alloc_at _ _ _ _ rfl]; rfl
  have xpw1_3 : w1.cell? ⟨pw1, 3, none⟩ = some (.int .i64 t0) := by rw [hw1, epw1', World.cell?_alloc_at _ _ _ _ rfl]; rfl
  have xpw1_4 : w1.cell? ⟨pw1, 4, none⟩ = some (.slice a0 L0.length c0) := by rw [hw1, epw1', World.cell?_alloc_at _ _ _ _ rfl]; rfl
  have xpw1_5 : w1.cell? ⟨pw1, 5, none⟩ = some (.slice b0 M0.length d0) := by rw [hw1, epw1', World.cell?_alloc_at _ _ _ _ rfl]; rfl
  have hpw1 : pw1 < w1.heap.size := by rw [hw1, epw1', World.size_alloc]; exact Nat.lt_succ_self _
  have hb : Below w.heap.size w w1 := by rw [hw1]; exact (Below.refl _ _).alloc (Nat.le_refl _) _
  have Sw1 := Lib.hid (show w1.heap.size = w.heap.size + 1 by rw [hw1, World.size_alloc])
  replace HB := Lib.hid (HB.out.trans (hb.mono hz))
  replace hz := Nat.le_trans hz hb.size
  have HZw1 := Lib.hid hb.size
  replace HA0 := Lib.hid (HA0.out.later hb)
  replace HM0 := Lib.hid (HM0.out.later hb)
  clear hb
  clear epw1' hw1
  refine (kit.szAcceptor x0 y0 s0 t0 a0 L0.length c0 b0 M0.length d0 (1048576) w1 (by omega) (by omega) (by omega) (by omega)).mono ?_
  rintro e w2 ⟨rfl, hb⟩
  replace xpw1_0 := (hb.cell (p := ⟨pw1, 0, none⟩) hpw1).trans xpw1_0
  replace xpw1_1 := (hb.cell (p := ⟨pw1, 1, none⟩) hpw1).trans xpw1_1
  replace xpw1_2 := (hb.cell (p := ⟨pw1, 2, none⟩) hpw1).trans xpw1_2
  replace xpw1_3 := (hb.cell (p := ⟨pw1, 3, none⟩) hpw1).trans xpw1_3
  replace xpw1_4 := (hb.cell (p := ⟨pw1, 4, none⟩) hpw1).trans xpw1_4
  replace xpw1_5 := (hb.cell (p := ⟨pw1, 5, none⟩) hpw1).trans xpw1_5
  replace hpw1 := Nat.lt_of_lt_of_le hpw1 hb.size
  replace HB := Lib.hid (HB.out.trans (hb.mono hz))
  replace hz := Nat.le_trans hz hb.size
  have HZw2 := Lib.hid hb.size
  replace HA0 := Lib.hid (HA0.out.later hb)
  replace HM0 := Lib.hid (HM0.out.later hb)
  clear hb
  by_cases hs1 : ¬ (L0.length : Int) + (M0.length : Int) ≤ 1048576
  · rw [show kit.left (1048576) L0.length M0.length = -1 from if_neg hs1]
    go_wp2_with fail
    go_ret
    exact ⟨rfl, HB.out⟩
  replace hs1 := Decidable.not_not.1 hs1
  rw [show kit.left (1048576) L0.length M0.length = 1048576 - (L0.length : Int) - (M0.length : Int) from if_pos hs1]
  go_wp2_with fail
  refine (kit.toAcceptor x0 y0 s0 t0 a0 c0 L0 b0 d0 M0 w2 (by omega) (by omega) HA0.out HM0.out).mono ?_
  rintro e w3 ⟨u4I, u4S, rfl, hoI, hoS, hb, hap⟩
  obtain ⟨yr5, qr5, rfl⟩ := hoI.shape
  obtain ⟨yr6, qr6, rfl⟩ := hoS.shape
  have HPr5 := Lib.hid hap
  clear hap
  replace xpw1_0 := (hb.cell (p := ⟨pw1, 0, none⟩) hpw1).trans xpw1_0
  replace xpw1_1 := (hb.cell (p := ⟨pw1, 1, none⟩) hpw1).trans xpw1_1
  replace xpw1_2 := (hb.cell (p := ⟨pw1, 2, none⟩) hpw1).trans xpw1_2
  replace xpw1_3 := (hb.cell (p := ⟨pw1, 3, none⟩) hpw1).trans xpw1_3
  replace xpw1_4 := (hb.cell (p := ⟨pw1, 4, none⟩) hpw1).trans xpw1_4
  replace xpw1_5 := (hb.cell (p := ⟨pw1, 5, none⟩) hpw1).trans xpw1_5
  replace hpw1 := Nat.lt_of_lt_of_le hpw1 hb.size
  replace HB := Lib.hid (HB.out.trans (hb.mono hz))
  replace hz := Nat.le_trans hz hb.size
  have HZw3 := Lib.hid hb.size
  replace HA0 := Lib.hid (HA0.out.later hb)
  replace HM0 := Lib.hid (HM0.out.later hb)
  have HOr5 := Lib.hid hoI
  have HUr5 := Lib.hid hoI.block
  clear hoI
  have HOr6 := Lib.hid hoS
  have HUr6 := Lib.hid hoS.block
  clear hoS
  clear hb
  go_wp2_with fail
  refine (kit.specPrepare x0 y0 s0 t0 _ _ (.slice yr5 L0.length qr5) (.slice yr6 M0.length qr6) L0 M0 a1 w3 (by omega) (by omega) HOr5.out HOr6.out).mono ?_
  rintro e w7 ⟨uI, uS, he, hoI, hoS, hb⟩
  generalize hT1 : kit.same L0 = T1 at hoI
  have lT1 : T1.length ≤ 4194304 := by rw [← hT1]; exact kit.same_len (by omega)
  have HT1 := Lib.hid hT1
  clear hT1
  generalize hT2 : kit.same M0 = T2 at hoS
  have lT2 : T2.length ≤ 4194304 := by rw [← hT2]; exact kit.same_len (by omega)
  have HT2 := Lib.hid hT2
  clear hT2
  generalize hT3 : kit.prepX x0 y0 s0 t0 L0 M0 a1 = T3 at he
  have HT3 := Lib.hid hT3
  clear hT3
  generalize hT4 : kit.same y0 = T4 at he
  have HT4 := Lib.hid hT4
  clear hT4
  generalize hT5 : kit.same s0 = T5 at he
  have HT5 := Lib.hid hT5
  clear hT5
  generalize hT6 : kit.same t0 = T6 at he
  have HT6 := Lib.hid hT6
  clear hT6
  generalize hT7 : kit.prepOk x0 y0 s0 t0 L0 M0 a1 = T7 at he
  have HT7 := Lib.hid hT7
  clear hT7
  obtain ⟨yr8, qr8, rfl⟩ := hoI.shape
  obtain ⟨yr9, qr9, rfl⟩ := hoS.shape
  subst he
  replace xpw1_0 := (hb.cell (p := ⟨pw1, 0, none⟩) hpw1).trans xpw1_0
  replace xpw1_1 := (hb.cell (p := ⟨pw1, 1, none⟩) hpw1).trans xpw1_1
  replace xpw1_2 := (hb.cell (p := ⟨pw1, 2, none⟩) hpw1).trans xpw1_2
  replace xpw1_3 := (hb.cell (p := ⟨pw1, 3, none⟩) hpw1).trans xpw1_3
  replace xpw1_4 := (hb.cell (p := ⟨pw1, 4, none⟩) hpw1).trans xpw1_4
  replace xpw1_5 := (hb.cell (p := ⟨pw1, 5, none⟩) hpw1).trans xpw1_5
  replace hpw1 := Nat.lt_of_lt_of_le hpw1 hb.size
  replace HB := Lib.hid (HB.out.trans (hb.mono hz))
  replace hz := Nat.le_trans hz hb.size
  have HZw7 := Lib.hid hb.size
  replace HOr5 := Lib.hid (HOr5.out.later hb)
  replace HOr6 := Lib.hid (HOr6.out.later hb)
  replace HA0 := Lib.hid (HA0.out.later hb)
  replace HM0 := Lib.hid (HM0.out.later hb)
  have HOr8 := Lib.hid hoI
  have HUr8 := Lib.hid hoI.block
  clear hoI
  have HOr9 := Lib.hid hoS
  have HUr9 := Lib.hid hoS.block
  clear hoS
  clear hb
  go_wp2_with fail
  obtain ⟨w10, hw10⟩ : ∃ W, W = w7.alloc (.cells #[.int .i64 T3, .int .i64 T4, .int .i64 T5, .int .i64 T6, .slice yr8 T1.length qr8, .slice yr9 T2.length qr9] 28) := ⟨_, rfl⟩
  rw [← hw10]
  obtain ⟨pw10, epw10⟩ : ∃ p, p = w7.heap.size := ⟨_, rfl⟩
  rw [← epw10]
  have Epw10 := Lib.hid epw10
  have epw10' := Epw10.out
  clear epw10
  have xpw10_0 : w10.cell? ⟨pw10, 0, none⟩ = some (.int .i64 T3) := by rw [hw10, epw10', World.cell?_alloc_at _ _ _ _ rfl]; rfl
  have xpw10_1 : w10.cell? ⟨pw10, 1, none⟩ = some (.int .i64 T4) := by rw [hw10, epw10', World.cell?_alloc_at _ _ _ _ rfl]; rfl
  have xpw10_2 : w10.cell? ⟨pw10, 2, none⟩ = some (.int .i64 T5) := by rw [hw10, epw10', World.cell?_alloc_at _ _ _ _ rfl]; rfl
  have xpw10_3 : w10.cell? ⟨pw10, 3, none⟩ = some (.int .i64 T6) := by rw [hw10, epw10', World.cell?_alloc_at _ _ _ _ rfl]; rfl
  have xpw10_4 : w10.cell? ⟨pw10, 4, none⟩ = some (.slice yr8 T1.length qr8) := by rw [hw10, epw10', World.cell?_alloc_at _ _ _ _ rfl]; rfl
  have xpw10_5 : w10.cell? ⟨pw10, 5, none⟩ = some (.slice yr9 T2.length qr9) := by rw [hw10, epw10', World.cell?_alloc_at _ _ _ _ rfl]; rfl
  have hpw10 : pw10 < w10.heap.size := by rw [hw10, epw10', World.size_alloc]; exact Nat.lt_succ_self _
  have hb : Below w7.heap.size w7 w10 := by rw [hw10]; exact (Below.refl _ _).alloc (Nat.le_refl _) _
  have Sw10 := Lib.hid (show w10.heap.size = w7.heap.size + 1 by rw [hw10, World.size_alloc])
  replace xpw1_0 := (hb.cell (p := ⟨pw1, 0, none⟩) hpw1).trans xpw1_0
  replace xpw1_1 := (hb.cell (p := ⟨pw1, 1, none⟩) hpw1).trans xpw1_1
  replace xpw1_2 := (hb.cell (p := ⟨pw1, 2, none⟩) hpw1).trans xpw1_2
  replace xpw1_3 := (hb.cell (p := ⟨pw1, 3, none⟩) hpw1).trans xpw1_3
  replace xpw1_4 := (hb.cell (p := ⟨pw1, 4, none⟩) hpw1).trans xpw1_4
  replace xpw1_5 := (hb.cell (p := ⟨pw1, 5, none⟩) hpw1).trans xpw1_5
  replace hpw1 := Nat.lt_of_lt_of_le hpw1 hb.size
  replace HB := Lib.hid (HB.out.trans (hb.mono hz))
  replace hz := Nat.le_trans hz hb.size
  have HZw10 := Lib.hid hb.size
  replace HOr5 := Lib.hid (HOr5.out.later hb)
  replace HOr6 := Lib.hid (HOr6.out.later hb)
  replace HOr8 := Lib.hid (HOr8.out.later hb)
  replace HOr9 := Lib.hid (HOr9.out.later hb)
  replace HA0 := Lib.hid (HA0.out.later hb)
  replace HM0 := Lib.hid (HM0.out.later hb)
  clear hb
  clear epw10' hw10
  refine (kit.toAcceptor x0 y0 s0 t0 a0 c0 L0 b0 d0 M0 w10 (by omega) (by omega) HA0.out HM0.out).mono ?_
  rintro e w11 ⟨u12I, u12S, rfl, hoI, hoS, hb, hap⟩
  obtain ⟨yr13, qr13, rfl⟩ := hoI.shape
  obtain ⟨yr14, qr14, rfl⟩ := hoS.shape
  have HPr13 := Lib.hid hap
  clear hap
  replace xpw1_0 := (hb.cell (p := ⟨pw1, 0, none⟩) hpw1).trans xpw1_0
  replace xpw1_1 := (hb.cell (p := ⟨pw1, 1, none⟩) hpw1).trans xpw1_1
  replace xpw1_2 := (hb.cell (p := ⟨pw1, 2, none⟩) hpw1).trans xpw1_2
  replace xpw1_3 := (hb.cell (p := ⟨pw1, 3, none⟩) hpw1).trans xpw1_3
  replace xpw1_4 := (hb.cell (p := ⟨pw1, 4, none⟩) hpw1).trans xpw1_4
  replace xpw1_5 := (hb.cell (p := ⟨pw1, 5, none⟩) hpw1).trans xpw1_5
  replace hpw1 := Nat.lt_of_lt_of_le hpw1 hb.size
  replace xpw10_0 := (hb.cell (p := ⟨pw10, 0, none⟩) hpw10).trans xpw10_0
  replace xpw10_1 := (hb.cell (p := ⟨pw10, 1, none⟩) hpw10).trans xpw10_1
  replace xpw10_2 := (hb.cell (p := ⟨pw10, 2, none⟩) hpw10).trans xpw10_2
  replace xpw10_3 := (hb.cell (p := ⟨pw10, 3, none⟩) hpw10).trans xpw10_3
  replace xpw10_4 := (hb.cell (p := ⟨pw10, 4, none⟩) hpw10).trans xpw10_4
  replace xpw10_5 := (hb.cell (p := ⟨pw10, 5, none⟩) hpw10).trans xpw10_5
  replace hpw10 := Nat.lt_of_lt_of_le hpw10 hb.size
  replace HB := Lib.hid (HB.out.trans (hb.mono hz))
  replace hz := Nat.le_trans hz hb.size
  have HZw11 := Lib.hid hb.size
  replace HOr5 := Lib.hid (HOr5.out.later hb)
  replace HOr6 := Lib.hid (HOr6.out.later hb)
  replace HOr8 := Lib.hid (HOr8.out.later hb)
  replace HOr9 := Lib.hid (HOr9.out.later hb)
  replace HA0 := Lib.hid (HA0.out.later hb)
  replace HM0 := Lib.hid (HM0.out.later hb)
  have HOr13 := Lib.hid hoI
  have HUr13 := Lib.hid hoI.block
  clear hoI
  have HOr14 := Lib.hid hoS
  have HUr14 := Lib.hid hoS.block
  clear hoS
  clear hb
  go_wp2_with fail
  obtain ⟨w15, hw15⟩ : ∃ W, W = w11.alloc (.cells #[.int .i64 x0, .int .i64 y0, .int .i64 s0, .int .i64 t0, .slice yr13 L0.length qr13, .slice yr14 M0.length qr14] 28) := ⟨_, rfl⟩
  rw [← hw15]
  obtain ⟨pw15, epw15⟩ : ∃ p, p = w11.heap.size := ⟨_, rfl⟩
  rw [← epw15]
  have Epw15 := Lib.hid epw15
  have epw15' := Epw15.out
  clear epw15
  have xpw15_0 : w15.cell? ⟨pw15, 0, none⟩ = some (.int .i64 x0) := by rw [hw15, epw15', World.cell?_alloc_at _ _ _ _ rfl]; rfl
  have xpw15_1 : w15.cell? ⟨pw15, 1, none⟩ = some (.int .i64 y0) := by rw [hw15, epw15', World.cell?_alloc_at _ _ _ _ rfl]; rfl
  have xpw15_2 : w15.cell? ⟨pw15, 2, none⟩ = some (.int .i64 s0) := by rw [hw15, epw15', World.cell?_alloc_at _ _ _ _ rfl]; rfl
  have xpw15_3 : w15.cell? ⟨pw15, 3, none⟩ = some (.int .i64 t0) := by rw [hw15, epw15', World.cell?_alloc_at _ _ _ _ rfl]; rfl
  have xpw15_4 : w15.cell? ⟨pw15, 4, none⟩ = some (.slice yr13 L0.length qr13) := by rw [hw15, epw15', World.cell?_alloc_at _ _ _ _ rfl]; rfl
  have xpw15_5 : w15.cell? ⟨pw15, 5, none⟩ = some (.slice yr14 M0.length qr14) := by rw [hw15, epw15', World.cell?_alloc_at _ _ _ _ rfl]; rfl
  have hpw15 : pw15 < w15.heap.size := by rw [hw15, epw15', World.size_alloc]; exact Nat.lt_succ_self _
  have hb : Below w11.heap.size w11 w15 := by rw [hw15]; exact (Below.refl _ _).alloc (Nat.le_refl _) _
  have Sw15 := Lib.hid (show w15.heap.size = w11.heap.size + 1 by rw [hw15, World.size_alloc])
  replace xpw1_0 := (hb.cell (p := ⟨pw1, 0, none⟩) hpw1).trans xpw1_0
  replace xpw1_1 := (hb.cell (p := ⟨pw1, 1, none⟩) hpw1).trans xpw1_1
  replace xpw1_2 := (hb.cell (p := ⟨pw1, 2, none⟩) hpw1).trans xpw1_2
  replace xpw1_3 := (hb.cell (p := ⟨pw1, 3, none⟩) hpw1).trans xpw1_3
  replace xpw1_4 := (hb.cell (p := ⟨pw1, 4, none⟩) hpw1).trans xpw1_4
  replace xpw1_5 := (hb.cell (p := ⟨pw1, 5, none⟩) hpw1).trans xpw1_5
  replace hpw1 := Nat.lt_of_lt_of_le hpw1 hb.size
  replace xpw10_0 := (hb.cell (p := ⟨pw10, 0, none⟩) hpw10).trans xpw10_0
  replace xpw10_1 := (hb.cell (p := ⟨pw10, 1, none⟩) hpw10).trans xpw10_1
  replace xpw10_2 := (hb.cell (p := ⟨pw10, 2, none⟩) hpw10).trans xpw10_2
  replace xpw10_3 := (hb.cell (p := ⟨pw10, 3, none⟩) hpw10).trans xpw10_3
  replace xpw10_4 := (hb.cell (p := ⟨pw10, 4, none⟩) hpw10).trans xpw10_4
  replace xpw10_5 := (hb.cell (p := ⟨pw10, 5, none⟩) hpw10).trans xpw10_5
  replace hpw10 := Nat.lt_of_lt_of_le hpw10 hb.size
  replace HB := Lib.hid (HB.out.trans (hb.mono hz))
  replace hz := Nat.le_trans hz hb.size
  have HZw15 := Lib.hid hb.size
  replace HOr5 := Lib.hid (HOr5.out.later hb)
  replace HOr6 := Lib.hid (HOr6.out.later hb)
  replace HOr8 := Lib.hid (HOr8.out.later hb)
  replace HOr9 := Lib.hid (HOr9.out.later hb)
  replace HOr13 := Lib.hid (HOr13.out.later hb)
  replace HOr14 := Lib.hid (HOr14.out.later hb)
  replace HA0 := Lib.hid (HA0.out.later hb)
  replace HM0 := Lib.hid (HM0.out.later hb)
  clear hb
  clear epw15' hw15
  refine (kit.implPrepare x0 y0 s0 t0 _ _ (.slice yr13 L0.length qr13) (.slice yr14 M0.length qr14) L0 M0 a1 w15 (by omega) (by omega) HOr13.out HOr14.out).mono ?_
  rintro e w16 ⟨uI, uS, he, hoI, hoS, hb, hap⟩
  rw [HT1.out] at hoI
  rw [HT2.out] at hoS
  rw [HT3.out] at he
  rw [HT4.out] at he
  rw [HT5.out] at he
  rw [HT6.out] at he
  rw [HT7.out] at he
  obtain ⟨yr17, qr17, rfl⟩ := hoI.shape
  obtain ⟨yr18, qr18, rfl⟩ := hoS.shape
  have HPr17 := Lib.hid hap
  clear hap
  subst he
  replace xpw1_0 := (hb.cell (p := ⟨pw1, 0, none⟩) hpw1).trans xpw1_0
  replace xpw1_1 := (hb.cell (p := ⟨pw1, 1, none⟩) hpw1).trans xpw1_1
  replace xpw1_2 := (hb.cell (p := ⟨pw1, 2, none⟩) hpw1).trans xpw1_2
  replace xpw1_3 := (hb.cell (p := ⟨pw1, 3, none⟩) hpw1).trans xpw1_3
  replace xpw1_4 := (hb.cell (p := ⟨pw1, 4, none⟩) hpw1).trans xpw1_4
  replace xpw1_5 := (hb.cell (p := ⟨pw1, 5, none⟩) hpw1).trans xpw1_5
  replace hpw1 := Nat.lt_of_lt_of_le hpw1 hb.size
  replace xpw10_0 := (hb.cell (p := ⟨pw10, 0, none⟩) hpw10).trans xpw10_0
  replace xpw10_1 := (hb.cell (p := ⟨pw10, 1, none⟩) hpw10).trans xpw10_1
  replace xpw10_2 := (hb.cell (p := ⟨pw10, 2, none⟩) hpw10).trans xpw10_2
  replace xpw10_3 := (hb.cell (p := ⟨pw10, 3, none⟩) hpw10).trans xpw10_3
  replace xpw10_4 := (hb.cell (p := ⟨pw10, 4, none⟩) hpw10).trans xpw10_4
  replace xpw10_5 := (hb.cell (p := ⟨pw10, 5, none⟩) hpw10).trans xpw10_5
  replace hpw10 := Nat.lt_of_lt_of_le hpw10 hb.size
  replace xpw15_0 := (hb.cell (p := ⟨pw15, 0, none⟩) hpw15).trans xpw15_0
  replace xpw15_1 := (hb.cell (p := ⟨pw15, 1, none⟩) hpw15).trans xpw15_1
  replace xpw15_2 := (hb.cell (p := ⟨pw15, 2, none⟩) hpw15).trans xpw15_2
  replace xpw15_3 := (hb.cell (p := ⟨pw15, 3, none⟩) hpw15).trans xpw15_3
  replace xpw15_4 := (hb.cell (p := ⟨pw15, 4, none⟩) hpw15).trans xpw15_4
  replace xpw15_5 := (hb.cell (p := ⟨pw15, 5, none⟩) hpw15).trans xpw15_5
  replace hpw15 := Nat.lt_of_lt_of_le hpw15 hb.size
  replace HB := Lib.hid (HB.out.trans (hb.mono hz))
  replace hz := Nat.le_trans hz hb.size
  have HZw16 := Lib.hid hb.size
  replace HOr5 := Lib.hid (HOr5.out.later hb)
  replace HOr6 := Lib.hid (HOr6.out.later hb)
  replace HOr8 := Lib.hid (HOr8.out.later hb)
  replace HOr9 := Lib.hid (HOr9.out.later hb)
  replace HOr13 := Lib.hid (HOr13.out.later hb)
  replace HOr14 := Lib.hid (HOr14.out.later hb)
  replace HA0 := Lib.hid (HA0.out.later hb)
  replace HM0 := Lib.hid (HM0.out.later hb)
  have HOr17 := Lib.hid hoI
  have HUr17 := Lib.hid hoI.block
  clear hoI
  have HOr18 := Lib.hid hoS
  have HUr18 := Lib.hid hoS.block
  clear hoS
  clear hb
  go_wp2_with fail
  obtain ⟨w19, hw19⟩ : ∃ W, W = w16.alloc (.cells #[.int .i64 T3, .int .i64 T4, .int .i64 T5, .int .i64 T6, .slice yr17 T1.length qr17, .slice yr18 T2.length qr18] 28) := ⟨_, rfl⟩
  rw [← hw19]
  obtain ⟨pw19, epw19⟩ : ∃ p, p = w16.heap.size := ⟨_, rfl⟩
  rw [← epw19]
  have Epw19 := Lib.hid epw19
  have epw19' := Epw19.out
  clear epw19
  have xpw19_0 : w19.cell? ⟨pw19, 0, none⟩ = some (.int .i64 T3) := by rw [hw19, epw19', World.cell?_alloc_at _ _ _ _ rfl]; rfl
  have xpw19_1 : w19.cell? ⟨pw19, 1, none⟩ = some (.int .i64 T4) := by rw [hw19, epw19', World.cell?_alloc_at _ _ _ _ rfl]; rfl
  have xpw19_2 : w19.cell? ⟨pw19, 2, none⟩ = some (.int .i64 T5) := by rw [hw19, epw19', World.cell?_alloc_at _ _ _ _ rfl]; rfl
  have xpw19_3 : w19.cell? ⟨pw19, 3, none⟩ = some (.int .i64 T6) := by rw [hw19, epw19', World.cell?_alloc_at _ _ _ _ rfl]; rfl
  have xpw19_4 : w19.cell? ⟨pw19, 4, none⟩ = some (.slice yr17 T1.length qr17) := by rw [hw19, epw19', World.cell?_alloc_at _ _ _ _ rfl]; rfl
  have xpw19_5 : w19.cell? ⟨pw19, 5, none⟩ = some (.slice yr18 T2.length qr18) := by rw [hw19, epw19', World.cell?_alloc_at _ _ _ _ rfl]; rfl
  have hpw19 : pw19 < w19.heap.size := by rw [hw19, epw19', World.size_alloc]; exact Nat.lt_succ_self _
  have hb : Below w16.heap.size w16 w19 := by rw [hw19]; exact (Below.refl _ _).alloc (Nat.le_refl _) _
  have Sw19 := Lib.hid (show w19.heap.size = w16.heap.size + 1 by rw [hw19, World.size_alloc])
  replace xpw1_0 := (hb.cell (p := ⟨pw1, 0, none⟩) hpw1).trans xpw1_0
  replace xpw1_1 := (hb.cell (p := ⟨pw1, 1, none⟩) hpw1).trans xpw1_1
  replace xpw1_2 := (hb.cell (p := ⟨pw1, 2, none⟩) hpw1).trans xpw1_2
  replace xpw1_3 := (hb.cell (p := ⟨pw1, 3, none⟩) hpw1).trans xpw1_3
  replace xpw1_4 := (hb.cell (p := ⟨pw1, 4, none⟩) hpw1).trans xpw1_4
  replace xpw1_5 := (hb.cell (p := ⟨pw1, 5, none⟩) hpw1).trans xpw1_5
  replace hpw1 := Nat.lt_of_lt_of_le hpw1 hb.size
  replace xpw10_0 := (hb.cell (p := ⟨pw10, 0, none⟩) hpw10).trans xpw10_0
  replace xpw10_1 := (hb.cell (p := ⟨pw10, 1, none⟩) hpw10).trans xpw10_1
  replace xpw10_2 := (hb.cell (p := ⟨pw10, 2, none⟩) hpw10).trans xpw10_2
  replace xpw10_3 := (hb.cell (p := ⟨pw10, 3, none⟩) hpw10).trans xpw10_3
  replace xpw10_4 := (hb.cell (p := ⟨pw10, 4, none⟩) hpw10).trans xpw10_4
  replace xpw10_5 := (hb.cell (p := ⟨pw10, 5, none⟩) hpw10).trans xpw10_5
  replace hpw10 := Nat.lt_of_lt_of_le hpw10 hb.size
  replace xpw15_0 := (hb.cell (p := ⟨pw15, 0, none⟩) hpw15).trans xpw15_0
  replace xpw15_1 := (hb.cell (p := ⟨pw15, 1, none⟩) hpw15).trans xpw15_1
  replace xpw15_2 := (hb.cell (p := ⟨pw15, 2, none⟩) hpw15).trans xpw15_2
  replace xpw15_3 := (hb.cell (p := ⟨pw15, 3, none⟩) hpw15).trans xpw15_3
  replace xpw15_4 := (hb.cell (p := ⟨pw15, 4, none⟩) hpw15).trans xpw15_4
  replace xpw15_5 := (hb.cell (p := ⟨pw15, 5, none⟩) hpw15).trans xpw15_5
  replace hpw15 := Nat.lt_of_lt_of_le hpw15 hb.size
  replace HB := Lib.hid (HB.out.trans (hb.mono hz))
  replace hz := Nat.le_trans hz hb.size
  have HZw19 := Lib.hid hb.size
  replace HOr5 := Lib.hid (HOr5.out.later hb)
  replace HOr6 := Lib.hid (HOr6.out.later hb)
  replace HOr8 := Lib.hid (HOr8.out.later hb)
  replace HOr9 := Lib.hid (HOr9.out.later hb)
  replace HOr13 := Lib.hid (HOr13.out.later hb)
  replace HOr14 := Lib.hid (HOr14.out.later hb)
  replace HOr17 := Lib.hid (HOr17.out.later hb)
  replace HOr18 := Lib.hid (HOr18.out.later hb)
  replace HA0 := Lib.hid (HA0.out.later hb)
  replace HM0 := Lib.hid (HM0.out.later hb)
  clear hb
  clear epw19' hw19
  refine (kit.eqAcceptorO T3 T4 T5 T6 _ _ (.slice yr17 T1.length qr17) (.slice yr18 T2.length qr18) T1 T2 T3 T4 T5 T6 _ _ (.slice yr8 T1.length qr8) (.slice yr9 T2.length qr9) T1 T2 w19 (by omega) (by omega) HOr17.out HOr18.out (by omega) (by omega) HOr8.out HOr9.out).mono ?_
  rintro e w20 ⟨he, hb⟩
  rw [decide_eq_true ⟨rfl, rfl, rfl, rfl, rfl, rfl⟩] at he
  subst he
  replace xpw1_0 := (hb.cell (p := ⟨pw1, 0, none⟩) hpw1).trans xpw1_0
  replace xpw1_1 := (hb.cell (p := ⟨pw1, 1, none⟩) hpw1).trans xpw1_1
  replace xpw1_2 := (hb.cell (p := ⟨pw1, 2, none⟩) hpw1).trans xpw1_2
  replace xpw1_3 := (hb.cell (p := ⟨pw1, 3, none⟩) hpw1).trans xpw1_3
  replace xpw1_4 := (hb.cell (p := ⟨pw1, 4, none⟩) hpw1).trans xpw1_4
  replace xpw1_5 := (hb.cell (p := ⟨pw1, 5, none⟩) hpw1).trans xpw1_5
  replace hpw1 := Nat.lt_of_lt_of_le hpw1 hb.size
  replace xpw10_0 := (hb.cell (p := ⟨pw10, 0, none⟩) hpw10).trans xpw10_0
  replace xpw10_1 := (hb.cell (p := ⟨pw10, 1, none⟩) hpw10).trans xpw10_1
  replace xpw10_2 := (hb.cell (p := ⟨pw10, 2, none⟩) hpw10).trans xpw10_2
  replace xpw10_3 := (hb.cell (p := ⟨pw10, 3, none⟩) hpw10).trans xpw10_3
  replace xpw10_4 := (hb.cell (p := ⟨pw10, 4, none⟩) hpw10).trans xpw10_4
  replace xpw10_5 := (hb.cell (p := ⟨pw10, 5, none⟩) hpw10).trans xpw10_5
  replace hpw10 := Nat.lt_of_lt_of_le hpw10 hb.size
  replace xpw15_0 := (hb.cell (p := ⟨pw15, 0, none⟩) hpw15).trans xpw15_0
  replace xpw15_1 := (hb.cell (p := ⟨pw15, 1, none⟩) hpw15).trans xpw15_1
  replace xpw15_2 := (hb.cell (p := ⟨pw15, 2, none⟩) hpw15).trans xpw15_2
  replace xpw15_3 := (hb.cell (p := ⟨pw15, 3, none⟩) hpw15).trans xpw15_3
  replace xpw15_4 := (hb.cell (p := ⟨pw15, 4, none⟩) hpw15).trans xpw15_4
  replace xpw15_5 := (hb.cell (p := ⟨pw15, 5, none⟩) hpw15).trans xpw15_5
  replace hpw15 := Nat.lt_of_lt_of_le hpw15 hb.size
  replace xpw19_0 := (hb.cell (p := ⟨pw19, 0, none⟩) hpw19).trans xpw19_0
  replace xpw19_1 := (hb.cell (p := ⟨pw19, 1, none⟩) hpw19).trans xpw19_1
  replace xpw19_2 := (hb.cell (p := ⟨pw19, 2, none⟩) hpw19).trans xpw19_2
  replace xpw19_3 := (hb.cell (p := ⟨pw19, 3, none⟩) hpw19).trans xpw19_3
  replace xpw19_4 := (hb.cell (p := ⟨pw19, 4, none⟩) hpw19).trans xpw19_4
  replace xpw19_5 := (hb.cell (p := ⟨pw19, 5, none⟩) hpw19).trans xpw19_5
  replace hpw19 := Nat.lt_of_lt_of_le hpw19 hb.size
  replace HB := Lib.hid (HB.out.trans (hb.mono hz))
  replace hz := Nat.le_trans hz hb.size
  have HZw20 := Lib.hid hb.size
  replace HOr5 := Lib.hid (HOr5.out.later hb)
  replace HOr6 := Lib.hid (HOr6.out.later hb)
  replace HOr8 := Lib.hid (HOr8.out.later hb)
  replace HOr9 := Lib.hid (HOr9.out.later hb)
  replace HOr13 := Lib.hid (HOr13.out.later hb)
  replace HOr14 := Lib.hid (HOr14.out.later hb)
  replace HOr17 := Lib.hid (HOr17.out.later hb)
  replace HOr18 := Lib.hid (HOr18.out.later hb)
  replace HA0 := Lib.hid (HA0.out.later hb)
  replace HM0 := Lib.hid (HM0.out.later hb)
  clear hb
  go_wp2_with fail
  go_upto_region 10 with (fail)
  go_cut [49] (fun b wx => b = .bool false ∧ Below w20.heap.size w20 wx)
  case first =>
    have hW0 := (Below.refl w20.heap.size w20).drew
    go_region_with (first | (go_at_call 20; (with_reducible refine (kit.toAcceptor x0 y0 s0 t0 a0 c0 L0 b0 d0 M0 _ (by omega) (by omega) (HA0.out.later hW0) (HM0.out.later hW0)).mono ?_); rintro e wa ⟨uI, uS, rfl, hoI, hoS, hb, hap⟩; obtain ⟨ya, qa, rfl⟩ := hoI.shape; obtain ⟨yb, qb, rfl⟩ := hoS.shape; have hB0 := hW0.trans (hb.mono hW0.size); have xpw1_0 := (hB0.cell (p := ⟨pw1, 0, none⟩) hpw1).trans xpw1_0; have xpw1_1 := (hB0.cell (p := ⟨pw1, 1, none⟩) hpw1).trans xpw1_1; have xpw1_2 := (hB0.cell (p := ⟨pw1, 2, none⟩) hpw1).trans xpw1_2; have xpw1_3 := (hB0.cell (p := ⟨pw1, 3, none⟩) hpw1).trans xpw1_3; have xpw1_4 := (hB0.cell (p := ⟨pw1, 4, none⟩) hpw1).trans xpw1_4; have xpw1_5 := (hB0.cell (p := ⟨pw1, 5, none⟩) hpw1).trans xpw1_5; have xpw10_0 := (hB0.cell (p := ⟨pw10, 0, none⟩) hpw10).trans xpw10_0; have xpw10_1 := (hB0.cell (p := ⟨pw10, 1, none⟩) hpw10).trans xpw10_1; have xpw10_2 := (hB0.cell (p := ⟨pw10, 2, none⟩) hpw10).trans xpw10_2; have xpw10_3 := (hB0.cell (p := ⟨pw10, 3, none⟩) hpw10).trans xpw10_3; have xpw10_4 := (hB0.cell (p := ⟨pw10, 4, none⟩) hpw10).trans xpw10_4; have xpw10_5 := (hB0.cell (p := ⟨pw10, 5, none⟩) hpw10).trans xpw10_5; have xpw15_0 := (hB0.cell (p := ⟨pw15, 0, none⟩) hpw15).trans xpw15_0; have xpw15_1 := (hB0.cell (p := ⟨pw15, 1, none⟩) hpw15).trans xpw15_1; have xpw15_2 := (hB0.cell (p := ⟨pw15, 2, none⟩) hpw15).trans xpw15_2; have xpw15_3 := (hB0.cell (p := ⟨pw15, 3, none⟩) hpw15).trans xpw15_3; have xpw15_4 := (hB0.cell (p := ⟨pw15, 4, none⟩) hpw15).trans xpw15_4; have xpw15_5 := (hB0.cell (p := ⟨pw15, 5, none⟩) hpw15).trans xpw15_5; have xpw19_0 := (hB0.cell (p := ⟨pw19, 0, none⟩) hpw19).trans xpw19_0; have xpw19_1 := (hB0.cell (p := ⟨pw19, 1, none⟩) hpw19).trans xpw19_1; have xpw19_2 := (hB0.cell (p := ⟨pw19, 2, none⟩) hpw19).trans xpw19_2; have xpw19_3 := (hB0.cell (p := ⟨pw19, 3, none⟩) hpw19).trans xpw19_3; have xpw19_4 := (hB0.cell (p := ⟨pw19, 4, none⟩) hpw19).trans xpw19_4; have xpw19_5 := (hB0.cell (p := ⟨pw19, 5, none⟩) hpw19).trans xpw19_5; clear hb) | (go_at_call 21; refine (kit.eqAcceptorO x0 y0 s0 t0 _ _ (.slice yr13 L0.length qr13) (.slice yr14 M0.length qr14) L0 M0 x0 y0 s0 t0 _ _ (.slice ya L0.length qa) (.slice yb M0.length qb) L0 M0 _ (by omega) (by omega) (HOr13.out.later hB0) (HOr14.out.later hB0) (by omega) (by omega) hoI hoS).mono ?_; rintro e wz ⟨he, hb⟩; rw [decide_eq_true ⟨rfl, rfl, rfl, rfl, rfl, rfl⟩] at he; subst he; have hB9 := hB0.trans (hb.mono hB0.size); clear hb))
    all_goals
      go_wp2_with fail
      go_meet
      exact ⟨rfl, hB9⟩
  case rest =>
    obtain ⟨rfl, hb⟩ := hcut
    replace xpw1_0 := (hb.cell (p := ⟨pw1, 0, none⟩) hpw1).trans xpw1_0
    replace xpw1_1 := (hb.cell (p := ⟨pw1, 1, none⟩) hpw1).trans xpw1_1
    replace xpw1_2 := (hb.cell (p := ⟨pw1, 2, none⟩) hpw1).trans xpw1_2
    replace xpw1_3 := (hb.cell (p := ⟨pw1, 3, none⟩) hpw1).trans xpw1_3
    replace xpw1_4 := (hb.cell (p := ⟨pw1, 4, none⟩) hpw1).trans xpw1_4
    replace xpw1_5 := (hb.cell (p := ⟨pw1, 5, none⟩) hpw1).trans xpw1_5
    replace hpw1 := Nat.lt_of_lt_of_le hpw1 hb.size
    replace xpw10_0 := (hb.cell (p := ⟨pw10, 0, none⟩) hpw10).trans xpw10_0
    replace xpw10_1 := (hb.cell (p := ⟨pw10, 1, none⟩) hpw10).trans xpw10_1
    replace xpw10_2 := (hb.cell (p := ⟨pw10, 2, none⟩) hpw10).trans xpw10_2
    replace xpw10_3 := (hb.cell (p := ⟨pw10, 3, none⟩) hpw10).trans xpw10_3
    replace xpw10_4 := (hb.cell (p := ⟨pw10, 4, none⟩) hpw10).trans xpw10_4
    replace xpw10_5 := (hb.cell (p := ⟨pw10, 5, none⟩) hpw10).trans xpw10_5
    replace hpw10 := Nat.lt_of_lt_of_le hpw10 hb.size
    replace xpw15_0 := (hb.cell (p := ⟨pw15, 0, none⟩) hpw15).trans xpw15_0
    replace xpw15_1 := (hb.cell (p := ⟨pw15, 1, none⟩) hpw15).trans xpw15_1
    replace xpw15_2 := (hb.cell (p := ⟨pw15, 2, none⟩) hpw15).trans xpw15_2
    replace xpw15_3 := (hb.cell (p := ⟨pw15, 3, none⟩) hpw15).trans xpw15_3
    replace xpw15_4 := (hb.cell (p := ⟨pw15, 4, none⟩) hpw15).trans xpw15_4
    replace xpw15_5 := (hb.cell (p := ⟨pw15, 5, none⟩) hpw15).trans xpw15_5
    replace hpw15 := Nat.lt_of_lt_of_le hpw15 hb.size
    replace xpw19_0 := (hb.cell (p := ⟨pw19, 0, none⟩) hpw19).trans xpw19_0
    replace xpw19_1 := (hb.cell (p := ⟨pw19, 1, none⟩) hpw19).trans xpw19_1
    replace xpw19_2 := (hb.cell (p := ⟨pw19, 2, none⟩) hpw19).trans xpw19_2
    replace xpw19_3 := (hb.cell (p := ⟨pw19, 3, none⟩) hpw19).trans xpw19_3
    replace xpw19_4 := (hb.cell (p := ⟨pw19, 4, none⟩) hpw19).trans xpw19_4
    replace xpw19_5 := (hb.cell (p := ⟨pw19, 5, none⟩) hpw19).trans xpw19_5
    replace hpw19 := Nat.lt_of_lt_of_le hpw19 hb.size
    replace HB := Lib.hid (HB.out.trans (hb.mono hz))
    replace hz := Nat.le_trans hz hb.size
    have HZwc := Lib.hid hb.size
    replace HOr5 := Lib.hid (HOr5.out.later hb)
    replace HOr6 := Lib.hid (HOr6.out.later hb)
    replace HOr8 := Lib.hid (HOr8.out.later hb)
    replace HOr9 := Lib.hid (HOr9.out.later hb)
    replace HOr13 := Lib.hid (HOr13.out.later hb)
    replace HOr14 := Lib.hid (HOr14.out.later hb)
    replace HOr17 := Lib.hid (HOr17.out.later hb)
    replace HOr18 := Lib.hid (HOr18.out.later hb)
    replace HA0 := Lib.hid (HA0.out.later hb)
    replace HM0 := Lib.hid (HM0.out.later hb)
    clear hb
    obtain ⟨w21, rfl⟩ : ∃ W, W = wc := ⟨_, rfl⟩
    go_wp2_with fail
    refine (kit.markAcceptor x0 y0 s0 t0 _ _ (.slice yr13 L0.length qr13) (.slice yr14 M0.length qr14) L0 M0 w21 (by omega) (by omega) HOr13.out HOr14.out HPr13.out 1 rfl).mono ?_
    rintro e w22 ⟨rfl, hoI, hoS, wa, wb, hA, hg1, hg2⟩
    have hap1 := HPr13.out
    have hb : Below w.heap.size w21 w22 := ((hA.mono hz).grown hg1 (Nat.le_trans hz hA.size) (fun g h => by have := HUr13.out g h; have := Epw1.out; have := Sw1.out; have := HZw1.out; have := HZw2.out; have := HZw3.out; have := HZw7.out; have := Epw10.out; have := Sw10.out; have := HZw10.out; have := HZw11.out; have := Epw15.out; have := Sw15.out; have := HZw15.out; have := HZw16.out; have := Epw19.out; have := Sw19.out; have := HZw19.out; have := HZw20.out; have := HZwc.out; omega)).grown hg2 (Nat.le_trans hz (Nat.le_trans hA.size hg1.size)) (fun g h => by have := HUr14.out g h; have := Epw1.out; have := Sw1.out; have := HZw1.out; have := HZw2.out; have := HZw3.out; have := HZw7.out; have := Epw10.out; have := Sw10.out; have := HZw10.out; have := HZw11.out; have := Epw15.out; have := Sw15.out; have := HZw15.out; have := HZw16.out; have := Epw19.out; have := Sw19.out; have := HZw19.out; have := HZw20.out; have := HZwc.out; omega)
    have hs : w21.heap.size ≤ w22.heap.size := hb.size
    replace xpw1_0 := (World.cell?_of_block (a := ⟨pw1, 0, none⟩) (kit.still hA hg1 hg2 (b := pw1) hpw1 (fun e => by have := HUr13.out _ e; have := Epw1.out; have := Sw1.out; have := HZw1.out; have := HZw2.out; have := HZw3.out; have := HZw7.out; have := Epw10.out; have := Sw10.out; have := HZw10.out; have := HZw11.out; have := Epw15.out; have := Sw15.out; have := HZw15.out; have := HZw16.out; have := Epw19.out; have := Sw19.out; have := HZw19.out; have := HZw20.out; have := HZwc.out; omega) (fun e => by have := HUr14.out _ e; have := Epw1.out; have := Sw1.out; have := HZw1.out; have := HZw2.out; have := HZw3.out; have := HZw7.out; have := Epw10.out; have := Sw10.out; have := HZw10.out; have := HZw11.out; have := Epw15.out; have := Sw15.out; have := HZw15.out; have := HZw16.out; have := Epw19.out; have := Sw19.out; have := HZw19.out; have := HZw20.out; have := HZwc.out; omega))).trans xpw1_0
    replace xpw1_1 := (World.cell?_of_block (a := ⟨pw1, 1, none⟩) (kit.still hA hg1 hg2 (b := pw1) hpw1 (fun e => by have := HUr13.out _ e; have := Epw1.out; have := Sw1.out; have := HZw1.out; have := HZw2.out; have := HZw3.out; have := HZw7.out; have := Epw10.out; have := Sw10.out; have := HZw10.out; have := HZw11.out; have := Epw15.out; have := Sw15.out; have := HZw15.out; have := HZw16.out; have := Epw19.out; have := Sw19.out; have := HZw19.out; have := HZw20.out; have := HZwc.out; omega) (fun e => by have := HUr14.out _ e; have := Epw1.out; have := Sw1.out; have := HZw1.out; have := HZw2.out; have := HZw3.out; have := HZw7.out; have := Epw10.out; have := Sw10.out; have := HZw10.out; have := HZw11.out; have := Epw15.out; have := Sw15.out; have := HZw15.out; have := HZw16.out; have := Epw19.out; have := Sw19.out; have := HZw19.out; have := HZw20.out; have := HZwc.out; omega))).trans xpw1_1
    replace xpw1_2 := (World.cell?_of_block (a := ⟨pw1, 2, none⟩) (kit.still hA hg1 hg2 (b := pw1) hpw1 (fun e => by have := HUr13.out _ e; have := Epw1.out; have := Sw1.out; have := HZw1.out; have := HZw2.out; have := HZw3.out; have := HZw7.out; have := Epw10.out; have := Sw10.out; have := HZw10.out; have := HZw11.out; have := Epw15.out; have := Sw15.out; have := HZw15.out; have := HZw16.out; have := Epw19.out; have := Sw19.out; have := HZw19.out; have := HZw20.out; have := HZwc.out; omega) (fun e => by have := HUr14.out _ e; have := Epw1.out; have := Sw1.out; have := HZw1.out; have := HZw2.out; have := HZw3.out; have := HZw7.out; have := Epw10.out; have := Sw10.out; have := HZw10.out; have := HZw11.out; have := Epw15.out; have := Sw15.out; have := HZw15.out; have := HZw16.out; have := Epw19.out; have := Sw19.out; have := HZw19.out; have := HZw20.out; have := HZwc.out; omega))).trans xpw1_2
    replace xpw1_3 := (World.cell?_of_block (a := ⟨pw1, 3, none⟩) (kit.still hA hg1 hg2 (b := pw1) hpw1 (fun e => by have := HUr13.out _ e; have := Epw1.out; have := Sw1.out; have := HZw1.out; have := HZw2.out; have := HZw3.out; have := HZw7.out; have := Epw10.out; have := Sw10.out; have := HZw10.out; have := HZw11.out; have := Epw15.out; have := Sw15.out; have := HZw15.out; have := HZw16.out; have := Epw19.out; have := Sw19.out; have := HZw19.out; have := HZw20.out; have := HZwc.out; omega) (fun e => by have := HUr14.out _ e; have := Epw1.out; have := Sw1.out; have := HZw1.out; have := HZw2.out; have := HZw3.out; have := HZw7.out; have := Epw10.out; have := Sw10.out; have := HZw10.out; have := HZw11.out; have := Epw15.out; have := Sw15.out; have := HZw15.out; have := HZw16.out; have := Epw19.out; have := Sw19.out; have := HZw19.out; have := HZw20.out; have := HZwc.out; omega))).trans xpw1_3
    replace xpw1_4 := (World.cell?_of_block (a := ⟨pw1, 4, none⟩) (kit.still hA hg1 hg2 (b := pw1) hpw1 (fun e => by have := HUr13.out _ e; have := Epw1.out; have := Sw1.out; have := HZw1.out; have := HZw2.out; have := HZw3.out; have := HZw7.out; have := Epw10.out; have := Sw10.out; have := HZw10.out; have := HZw11.out; have := Epw15.out; have := Sw15.out; have := HZw15.out; have := HZw16.out; have := Epw19.out; have := Sw19.out; have := HZw19.out; have := HZw20.out; have := HZwc.out; omega) (fun e => by have := HUr14.out _ e; have := Epw1.out; have := Sw1.out; have := HZw1.out; have := HZw2.out; have := HZw3.out; have := HZw7.out; have := Epw10.out; have := Sw10.out; have := HZw10.out; have := HZw11.out; have := Epw15.out; have := Sw15.out; have := HZw15.out; have := HZw16.out; have := Epw19.out; have := Sw19.out; have := HZw19.out; have := HZw20.out; have := HZwc.out; omega))).trans xpw1_4
    replace xpw1_5 := (World.cell?_of_block (a := ⟨pw1, 5, none⟩) (kit.still hA hg1 hg2 (b := pw1) hpw1 (fun e => by have := HUr13.out _ e; have := Epw1.out; have := Sw1.out; have := HZw1.out; have := HZw2.out; have := HZw3.out; have := HZw7.out; have := Epw10.out; have := Sw10.out; have := HZw10.out; have := HZw11.out; have := Epw15.out; have := Sw15.out; have := HZw15.out; have := HZw16.out; have := Epw19.out; have := Sw19.out; have := HZw19.out; have := HZw20.out; have := HZwc.out; omega) (fun e => by have := HUr14.out _ e; have := Epw1.out; have := Sw1.out; have := HZw1.out; have := HZw2.out; have := HZw3.out; have := HZw7.out; have := Epw10.out; have := Sw10.out; have := HZw10.out; have := HZw11.out; have := Epw15.out; have := Sw15.out; have := HZw15.out; have := HZw16.out; have := Epw19.out; have := Sw19.out; have := HZw19.out; have := HZw20.out; have := HZwc.out; omega))).trans xpw1_5
    replace hpw1 := Nat.lt_of_lt_of_le hpw1 hs
    replace xpw10_0 := (World.cell?_of_block (a := ⟨pw10, 0, none⟩) (kit.still hA hg1 hg2 (b := pw10) hpw10 (fun e => by have := HUr13.out _ e; have := Epw1.out; have := Sw1.out; have := HZw1.out; have := HZw2.out; have := HZw3.out; have := HZw7.out; have := Epw10.out; have := Sw10.out; have := HZw10.out; have := HZw11.out; have := Epw15.out; have := Sw15.out; have := HZw15.out; have := HZw16.out; have := Epw19.out; have := Sw19.out; have := HZw19.out; have := HZw20.out; have := HZwc.out; omega) (fun e => by have := HUr14.out _ e; have := Epw1.out; have := Sw1.out; have := HZw1.out; have := HZw2.out; have := HZw3.out; have := HZw7.out; have := Epw10.out; have := Sw10.out; have := HZw10.out; have := HZw11.out; have := Epw15.out; have := Sw15.out; have := HZw15.out; have := HZw16.out; have := Epw19.out; have := Sw19.out; have := HZw19.out; have := HZw20.out; have := HZwc.out; omega))).trans xpw10_0
    replace xpw10_1 := (World.cell?_of_block (a := ⟨pw10, 1, none⟩) (kit.still hA hg1 hg2 (b := pw10) hpw10 (fun e => by have := HUr13.out _ e; have := Epw1.out; have := Sw1.out; have := HZw1.out; have := HZw2.out; have := HZw3.out; have := HZw7.out; have := Epw10.out; have := Sw10.out; have := HZw10.out; have := HZw11.out; have := Epw15.out; have := Sw15.out; have := HZw15.out; have := HZw16.out; have := Epw19.out; have := Sw19.out; have := HZw19.out; have := HZw20.out; have := HZwc.out; omega) (fun e => by have := HUr14.out _ e; have := Epw1.out; have := Sw1.out; have := HZw1.out; have := HZw2.out; have := HZw3.out; have := HZw7.out; have := Epw10.out; have := Sw10.out; have := HZw10.out; have := HZw11.out; have := Epw15.out; have := Sw15.out; have := HZw15.out; have := HZw16.out; have := Epw19.out; have := Sw19.out; have := HZw19.out; have := HZw20.out; have := HZwc.out; omega))).trans xpw10_1
    replace xpw10_2 := (World.cell?_of_block (a := ⟨pw10, 2, none⟩) (kit.still hA hg1 hg2 (b := pw10) hpw10 (fun e => by have := HUr13.out _ e; have := Epw1.out; have := Sw1.out; have := HZw1.out; have := HZw2.out; have := HZw3.out; have := HZw7.out; have := Epw10.out; have := Sw10.out; have := HZw10.out; have := HZw11.out; have := Epw15.out; have := Sw15.out; have := HZw15.out; have := HZw16.out; have := Epw19.out; have := Sw19.out; have := HZw19.out; have := HZw20.out; have := HZwc.out; omega) (fun e => by have := HUr14.out _ e; have := Epw1.out; have := Sw1.out; have := HZw1.out; have := HZw2.out; have := HZw3.out; have := HZw7.out; have := Epw10.out; have := Sw10.out; have := HZw10.out; have := HZw11.out; have := Epw15.out; have := Sw15.out; have := HZw15.out; have := HZw16.out; have := Epw19.out; have := Sw19.out; have := HZw19.out; have := HZw20.out; have := HZwc.out; omega))).trans xpw10_2
    replace xpw10_3 := (World.cell?_of_block (a := ⟨pw10, 3, none⟩) (kit.still hA hg1 hg2 (b := pw10) hpw10 (fun e => by have := HUr13.out _ e; have := Epw1.out; have := Sw1.out; have := HZw1.out; have := HZw2.out; have := HZw3.out; have := HZw7.out; have := Epw10.out; have := Sw10.out; have := HZw10.out; have := HZw11.out; have := Epw15.out; have := Sw15.out; have := HZw15.out; have := HZw16.out; have := Epw19.out; have := Sw19.out; have := HZw19.out; have := HZw20.out; have := HZwc.out; omega) (fun e => by have := HUr14.out _ e; have := Epw1.out; have := Sw1.out; have := HZw1.out; have := HZw2.out; have := HZw3.out; have := HZw7.out; have := Epw10.out; have := Sw10.out; have := HZw10.out; have := HZw11.out; have := Epw15.out; have := Sw15.out; have := HZw15.out; have := HZw16.out; have := Epw19.out; have := Sw19.out; have := HZw19.out; have := HZw20.out; have := HZwc.out; omega))).trans xpw10_3
    replace xpw10_4 := (World.cell?_of_block (a := ⟨pw10, 4, none⟩) (kit.still hA hg1 hg2 (b := pw10) hpw10 (fun e => by have := HUr13.out _ e; have := Epw1.out; have := Sw1.out; have := HZw1.out; have := HZw2.out; have := HZw3.out; have := HZw7.out; have := Epw10.out; have := Sw10.out; have := HZw10.out; have := HZw11.out; have := Epw15.out; have := Sw15.out; have := HZw15.out; have := HZw16.out; have := Epw19.out; have := Sw19.out; have := HZw19.out; have := HZw20.out; have := HZwc.out; omega) (fun e => by have := HUr14.out _ e; have := Epw1.out; have := Sw1.out; have := HZw1.out; have := HZw2.out; have := HZw3.out; have := HZw7.out; have := Epw10.out; have := Sw10.out; have := HZw10.out; have := HZw11.out; have := Epw15.out; have := Sw15.out; have := HZw15.out; have := HZw16.out; have := Epw19.out; have := Sw19.out; have := HZw19.out; have := HZw20.out; have := HZwc.out; omega))).trans xpw10_4
    replace xpw10_5 := (World.cell?_of_block (a := ⟨pw10, 5, none⟩) (kit.still hA hg1 hg2 (b := pw10) hpw10 (fun e => by have := HUr13.out _ e; have := Epw1.out; have := Sw1.out; have := HZw1.out; have := HZw2.out; have := HZw3.out; have := HZw7.out; have := Epw10.out; have := Sw10.out; have := HZw10.out; have := HZw11.out; have := Epw15.out; have := Sw15.out; have := HZw15.out; have := HZw16.out; have := Epw19.out; have := Sw19.out; have := HZw19.out; have := HZw20.out; have := HZwc.out; omega) (fun e => by have := HUr14.out _ e; have := Epw1.out; have := Sw1.out; have := HZw1.out; have := HZw2.out; have := HZw3.out; have := HZw7.out; have := Epw10.out; have := Sw10.out; have := HZw10.out; have := HZw11.out; have := Epw15.out; have := Sw15.out; have := HZw15.out; have := HZw16.out; have := Epw19.out; have := Sw19.out; have := HZw19.out; have := HZw20.out; have := HZwc.out; omega))).trans xpw10_5
    replace hpw10 := Nat.lt_of_lt_of_le hpw10 hs
    replace xpw15_0 := (World.cell?_of_block (a := ⟨pw15, 0, none⟩) (kit.still hA hg1 hg2 (b := pw15) hpw15 (fun e => by have := HUr13.out _ e; have := Epw1.out; have := Sw1.out; have := HZw1.out; have := HZw2.out; have := HZw3.out; have := HZw7.out; have := Epw10.out; have := Sw10.out; have := HZw10.out; have := HZw11.out; have := Epw15.out; have := Sw15.out; have := HZw15.out; have := HZw16.out; have := Epw19.out; have := Sw19.out; have := HZw19.out; have := HZw20.out; have := HZwc.out; omega) (fun e => by have := HUr14.out _ e; have := Epw1.out; have := Sw1.out; have := HZw1.out; have := HZw2.out; have := HZw3.out; have := HZw7.out; have := Epw10.out; have := Sw10.out; have := HZw10.out; have := HZw11.out; have := Epw15.out; have := Sw15.out; have := HZw15.out; have := HZw16.out; have := Epw19.out; have := Sw19.out; have := HZw19.out; have := HZw20.out; have := HZwc.out; omega))).trans xpw15_0
    replace xpw15_1 := (World.cell?_of_block (a := ⟨pw15, 1, none⟩) (kit.still hA hg1 hg2 (b := pw15) hpw15 (fun e => by have := HUr13.out _ e; have := Epw1.out; have := Sw1.out; have := HZw1.out; have := HZw2.out; have := HZw3.out; have := HZw7.out; have := Epw10.out; have := Sw10.out; have := HZw10.out; have := HZw11.out; have := Epw15.out; have := Sw15.out; have := HZw15.out; have := HZw16.out; have := Epw19.out; have := Sw19.out; have := HZw19.out; have := HZw20.out; have := HZwc.out; omega) (fun e => by have := HUr14.out _ e; have := Epw1.out; have := Sw1.out; have := HZw1.out; have := HZw2.out; have := HZw3.out; have := HZw7.out; have := Epw10.out; have := Sw10.out; have := HZw10.out; have := HZw11.out; have := Epw15.out; have := Sw15.out; have := HZw15.out; have := HZw16.out; have := Epw19.out; have := Sw19.out; have := HZw19.out; have := HZw20.out; have := HZwc.out; omega))).trans xpw15_1
    replace xpw15_2 := (World.cell?_of_block (a := ⟨pw15, 2, none⟩) (kit.still hA hg1 hg2 (b := pw15) hpw15 (fun e => by have := HUr13.out _ e; have := Epw1.out; have := Sw1.out; have := HZw1.out; have := HZw2.out; have := HZw3.out; have := HZw7.out; have := Epw10.out; have := Sw10.out; have := HZw10.out; have := HZw11.out; have := Epw15.out; have := Sw15.out; have := HZw15.out; have := HZw16.out; have := Epw19.out; have := Sw19.out; have := HZw19.out; have := HZw20.out; have := HZwc.out; omega) (fun e => by have := HUr14.out _ e; have := Epw1.out; have := Sw1.out; have := HZw1.out; have := HZw2.out; have := HZw3.out; have := HZw7.out; have := Epw10.out; have := Sw10.out; have := HZw10.out; have := HZw11.out; have := Epw15.out; have := Sw15.out; have := HZw15.out; have := HZw16.out; have := Epw19.out; have := Sw19.out; have := HZw19.out; have := HZw20.out; have := HZwc.out; omega))).trans xpw15_2
    replace xpw15_3 := (World.cell?_of_block (a := ⟨pw15, 3, none⟩) (kit.still hA hg1 hg2 (b := pw15) hpw15 (fun e => by have := HUr13.out _ e; have := Epw1.out; have := Sw1.out; have := HZw1.out; have := HZw2.out; have := HZw3.out; have := HZw7.out; have := Epw10.out; have := Sw10.out; have := HZw10.out; have := HZw11.out; have := Epw15.out; have := Sw15.out; have := HZw15.out; have := HZw16.out; have := Epw19.out; have := Sw19.out; have := HZw19.out; have := HZw20.out; have := HZwc.out; omega) (fun e => by have := HUr14.out _ e; have := Epw1.out; have := Sw1.out; have := HZw1.out; have := HZw2.out; have := HZw3.out; have := HZw7.out; have := Epw10.out; have := Sw10.out; have := HZw10.out; have := HZw11.out; have := Epw15.out; have := Sw15.out; have := HZw15.out; have := HZw16.out; have := Epw19.out; have := Sw19.out; have := HZw19.out; have := HZw20.out; have := HZwc.out; omega))).trans xpw15_3
    replace xpw15_4 := (World.cell?_of_block (a := ⟨pw15, 4, none⟩) (kit.still hA hg1 hg2 (b := pw15) hpw15 (fun e => by have := HUr13.out _ e; have := Epw1.out; have := Sw1.out; have := HZw1.out; have := HZw2.out; have := HZw3.out; have := HZw7.out; have := Epw10.out; have := Sw10.out; have := HZw10.out; have := HZw11.out; have := Epw15.out; have := Sw15.out; have := HZw15.out; have := HZw16.out; have := Epw19.out; have := Sw19.out; have := HZw19.out; have := HZw20.out; have := HZwc.out; omega) (fun e => by have := HUr14.out _ e; have := Epw1.out; have := Sw1.out; have := HZw1.out; have := HZw2.out; have := HZw3.out; have := HZw7.out; have := Epw10.out; have := Sw10.out; have := HZw10.out; have := HZw11.out; have := Epw15.out; have := Sw15.out; have := HZw15.out; have := HZw16.out; have := Epw19.out; have := Sw19.out; have := HZw19.out; have := HZw20.out; have := HZwc.out; omega))).trans xpw15_4
    replace xpw15_5 := (World.cell?_of_block (a := ⟨pw15, 5, none⟩) (kit.still hA hg1 hg2 (b := pw15) hpw15 (fun e => by have := HUr13.out _ e; have := Epw1.out; have := Sw1.out; have := HZw1.out; have := HZw2.out; have := HZw3.out; have := HZw7.out; have := Epw10.out; have := Sw10.out; have := HZw10.out; have := HZw11.out; have := Epw15.out; have := Sw15.out; have := HZw15.out; have := HZw16.out; have := Epw19.out; have := Sw19.out; have := HZw19.out; have := HZw20.out; have := HZwc.out; omega) (fun e => by have := HUr14.out _ e; have := Epw1.out; have := Sw1.out; have := HZw1.out; have := HZw2.out; have := HZw3.out; have := HZw7.out; have := Epw10.out; have := Sw10.out; have := HZw10.out; have := HZw11.out; have := Epw15.out; have := Sw15.out; have := HZw15.out; have := HZw16.out; have := Epw19.out; have := Sw19.out; have := HZw19.out; have := HZw20.out; have := HZwc.out; omega))).trans xpw15_5
    replace hpw15 := Nat.lt_of_lt_of_le hpw15 hs
    replace xpw19_0 := (World.cell?_of_block (a := ⟨pw19, 0, none⟩) (kit.still hA hg1 hg2 (b := pw19) hpw19 (fun e => by have := HUr13.out _ e; have := Epw1.out; have := Sw1.out; have := HZw1.out; have := HZw2.out; have := HZw3.out; have := HZw7.out; have := Epw10.out; have := Sw10.out; have := HZw10.out; have := HZw11.out; have := Epw15.out; have := Sw15.out; have := HZw15.out; have := HZw16.out; have := Epw19.out; have := Sw19.out; have := HZw19.out; have := HZw20.out; have := HZwc.out; omega) (fun e => by have := HUr14.out _ e; have := Epw1.out; have := Sw1.out; have := HZw1.out; have := HZw2.out; have := HZw3.out; have := HZw7.out; have := Epw10.out; have := Sw10.out; have := HZw10.out; have := HZw11.out; have := Epw15.out; have := Sw15.out; have := HZw15.out; have := HZw16.out; have := Epw19.out; have := Sw19.out; have := HZw19.out; have := HZw20.out; have := HZwc.out; omega))).trans xpw19_0
    replace xpw19_1 := (World.cell?_of_block (a := ⟨pw19, 1, none⟩) (kit.still hA hg1 hg2 (b := pw19) hpw19 (fun e => by have := HUr13.out _ e; have := Epw1.out; have := Sw1.out; have := HZw1.out; have := HZw2.out; have := HZw3.out; have := HZw7.out; have := Epw10.out; have := Sw10.out; have := HZw10.out; have := HZw11.out; have := Epw15.out; have := Sw15.out; have := HZw15.out; have := HZw16.out; have := Epw19.out; have := Sw19.out; have := HZw19.out; have := HZw20.out; have := HZwc.out; omega) (fun e => by have := HUr14.out _ e; have := Epw1.out; have := Sw1.out; have := HZw1.out; have := HZw2.out; have := HZw3.out; have := HZw7.out; have := Epw10.out; have := Sw10.out; have := HZw10.out; have := HZw11.out; have := Epw15.out; have := Sw15.out; have := HZw15.out; have := HZw16.out; have := Epw19.out; have := Sw19.out; have := HZw19.out; have := HZw20.out; have := HZwc.out; omega))).trans xpw19_1
    replace xpw19_2 := (World.cell?_of_block (a := ⟨pw19, 2, none⟩) (kit.still hA hg1 hg2 (b := pw19) hpw19 (fun e => by have := HUr13.out _ e; have := Epw1.out; have := Sw1.out; have := HZw1.out; have := HZw2.out; have := HZw3.out; have := HZw7.out; have := Epw10.out; have := Sw10.out; have := HZw10.out; have := HZw11.out; have := Epw15.out; have := Sw15.out; have := HZw15.out; have := HZw16.out; have := Epw19.out; have := Sw19.out; have := HZw19.out; have := HZw20.out; have := HZwc.out; omega) (fun e => by have := HUr14.out _ e; have := Epw1.out; have := Sw1.out; have := HZw1.out; have := HZw2.out; have := HZw3.out; have := HZw7.out; have := Epw10.out; have := Sw10.out; have := HZw10.out; have := HZw11.out; have := Epw15.out; have := Sw15.out; have := HZw15.out; have := HZw16.out; have := Epw19.out; have := Sw19.out; have := HZw19.out; have := HZw20.out; have := HZwc.out; omega))).trans xpw19_2
    replace xpw19_3 := (World.cell?_of_block (a := ⟨pw19, 3, none⟩) (kit.still hA hg1 hg2 (b := pw19) hpw19 (fun e => by have := HUr13.out _ e; have := Epw1.out; have := Sw1.out; have := HZw1.out; have := HZw2.out; have := HZw3.out; have := HZw7.out; have := Epw10.out; have := Sw10.out; have := HZw10.out; have := HZw11.out; have := Epw15.out; have := Sw15.out; have := HZw15.out; have := HZw16.out; have := Epw19.out; have := Sw19.out; have := HZw19.out; have := HZw20.out; have := HZwc.out; omega) (fun e => by have := HUr14.out _ e; have := Epw1.out; have := Sw1.out; have := HZw1.out; have := HZw2.out; have := HZw3.out; have := HZw7.out; have := Epw10.out; have := Sw10.out; have := HZw10.out; have := HZw11.out; have := Epw15.out; have := Sw15.out; have := HZw15.out; have := HZw16.out; have := Epw19.out; have := Sw19.out; have := HZw19.out; have := HZw20.out; have := HZwc.out; omega))).trans xpw19_3
    replace xpw19_4 := (World.cell?_of_block (a := ⟨pw19, 4, none⟩) (kit.still hA hg1 hg2 (b := pw19) hpw19 (fun e => by have := HUr13.out _ e; have := Epw1.out; have := Sw1.out; have := HZw1.out; have := HZw2.out; have := HZw3.out; have := HZw7.out; have := Epw10.out; have := Sw10.out; have := HZw10.out; have := HZw11.out; have := Epw15.out; have := Sw15.out; have := HZw15.out; have := HZw16.out; have := Epw19.out; have := Sw19.out; have := HZw19.out; have := HZw20.out; have := HZwc.out; omega) (fun e => by have := HUr14.out _ e; have := Epw1.out; have := Sw1.out; have := HZw1.out; have := HZw2.out; have := HZw3.out; have := HZw7.out; have := Epw10.out; have := Sw10.out; have := HZw10.out; have := HZw11.out; have := Epw15.out; have := Sw15.out; have := HZw15.out; have := HZw16.out; have := Epw19.out; have := Sw19.out; have := HZw19.out; have := HZw20.out; have := HZwc.out; omega))).trans xpw19_4
    replace xpw19_5 := (World.cell?_of_block (a := ⟨pw19, 5, none⟩) (kit.still hA hg1 hg2 (b := pw19) hpw19 (fun e => by have := HUr13.out _ e; have := Epw1.out; have := Sw1.out; have := HZw1.out; have := HZw2.out; have := HZw3.out; have := HZw7.out; have := Epw10.out; have := Sw10.out; have := HZw10.out; have := HZw11.out; have := Epw15.out; have := Sw15.out; have := HZw15.out; have := HZw16.out; have := Epw19.out; have := Sw19.out; have := HZw19.out; have := HZw20.out; have := HZwc.out; omega) (fun e => by have := HUr14.out _ e; have := Epw1.out; have := Sw1.out; have := HZw1.out; have := HZw2.out; have := HZw3.out; have := HZw7.out; have := Epw10.out; have := Sw10.out; have := HZw10.out; have := HZw11.out; have := Epw15.out; have := Sw15.out; have := HZw15.out; have := HZw16.out; have := Epw19.out; have := Sw19.out; have := HZw19.out; have := HZw20.out; have := HZwc.out; omega))).trans xpw19_5
    replace hpw19 := Nat.lt_of_lt_of_le hpw19 hs
    replace HOr5 := Lib.hid (((HOr5.out.later hA).marked hg1 (fun g a c => by have h3 := HUr13.out g a; have h4 := HUr5.out g c; have := Epw1.out; have := Sw1.out; have := HZw1.out; have := HZw2.out; have := HZw3.out; have := HZw7.out; have := Epw10.out; have := Sw10.out; have := HZw10.out; have := HZw11.out; have := Epw15.out; have := Sw15.out; have := HZw15.out; have := HZw16.out; have := Epw19.out; have := Sw19.out; have := HZw19.out; have := HZw20.out; have := HZwc.out; omega)).marked hg2 (fun g a c => by have h3 := HUr14.out g a; have h4 := HUr5.out g c; have := Epw1.out; have := Sw1.out; have := HZw1.out; have := HZw2.out; have := HZw3.out; have := HZw7.out; have := Epw10.out; have := Sw10.out; have := HZw10.out; have := HZw11.out; have := Epw15.out; have := Sw15.out; have := HZw15.out; have := HZw16.out; have := Epw19.out; have := Sw19.out; have := HZw19.out; have := HZw20.out; have := HZwc.out; omega))
    replace HOr6 := Lib.hid (((HOr6.out.later hA).marked hg1 (fun g a c => by have h3 := HUr13.out g a; have h4 := HUr6.out g c; have := Epw1.out; have := Sw1.out; have := HZw1.out; have := HZw2.out; have := HZw3.out; have := HZw7.out; have := Epw10.out; have := Sw10.out; have := HZw10.out; have := HZw11.out; have := Epw15.out; have := Sw15.out; have := HZw15.out; have := HZw16.out; have := Epw19.out; have := Sw19.out; have := HZw19.out; have := HZw20.out; have := HZwc.out; omega)).marked hg2 (fun g a c => by have h3 := HUr14.out g a; have h4 := HUr6.out g c; have := Epw1.out; have := Sw1.out; have := HZw1.out; have := HZw2.out; have := HZw3.out; have := HZw7.out; have := Epw10.out; have := Sw10.out; have := HZw10.out; have := HZw11.out; have := Epw15.out; have := Sw15.out; have := HZw15.out; have := HZw16.out; have := Epw19.out; have := Sw19.out; have := HZw19.out; have := HZw20.out; have := HZwc.out; omega))
    replace HOr8 := Lib.hid (((HOr8.out.later hA).marked hg1 (fun g a c => by have h3 := HUr13.out g a; have h4 := HUr8.out g c; have := Epw1.out; have := Sw1.out; have := HZw1.out; have := HZw2.out; have := HZw3.out; have := HZw7.out; have := Epw10.out; have := Sw10.out; have := HZw10.out; have := HZw11.out; have := Epw15.out; have := Sw15.out; have := HZw15.out; have := HZw16.out; have := Epw19.out; have := Sw19.out; have := HZw19.out; have := HZw20.out; have := HZwc.out; omega)).marked hg2 (fun g a c => by have h3 := HUr14.out g a; have h4 := HUr8.out g c; have := Epw1.out; have := Sw1.out; have := HZw1.out; have := HZw2.out; have := HZw3.out; have := HZw7.out; have := Epw10.out; have := Sw10.out; have := HZw10.out; have := HZw11.out; have := Epw15.out; have := Sw15.out; have := HZw15.out; have := HZw16.out; have := Epw19.out; have := Sw19.out; have := HZw19.out; have := HZw20.out; have := HZwc.out; omega))
    replace HOr9 := Lib.hid (((HOr9.out.later hA).marked hg1 (fun g a c => by have h3 := HUr13.out g a; have h4 := HUr9.out g c; have := Epw1.out; have := Sw1.out; have := HZw1.out; have := HZw2.out; have := HZw3.out; have := HZw7.out; have := Epw10.out; have := Sw10.out; have := HZw10.out; have := HZw11.out; have := Epw15.out; have := Sw15.out; have := HZw15.out; have := HZw16.out; have := Epw19.out; have := Sw19.out; have := HZw19.out; have := HZw20.out; have := HZwc.out; omega)).marked hg2 (fun g a c => by have h3 := HUr14.out g a; have h4 := HUr9.out g c; have := Epw1.out; have := Sw1.out; have := HZw1.out; have := HZw2.out; have := HZw3.out; have := HZw7.out; have := Epw10.out; have := Sw10.out; have := HZw10.out; have := HZw11.out; have := Epw15.out; have := Sw15.out; have := HZw15.out; have := HZw16.out; have := Epw19.out; have := Sw19.out; have := HZw19.out; have := HZw20.out; have := HZwc.out; omega))
    replace HOr17 := Lib.hid (((HOr17.out.later hA).marked hg1 (fun g a c => by have h3 := HUr13.out g a; have h4 := HUr17.out g c; have := Epw1.out; have := Sw1.out; have := HZw1.out; have := HZw2.out; have := HZw3.out; have := HZw7.out; have := Epw10.out; have := Sw10.out; have := HZw10.out; have := HZw11.out; have := Epw15.out; have := Sw15.out; have := HZw15.out; have := HZw16.out; have := Epw19.out; have := Sw19.out; have := HZw19.out; have := HZw20.out; have := HZwc.out; omega)).marked hg2 (fun g a c => by have h3 := HUr14.out g a; have h4 := HUr17.out g c; have := Epw1.out; have := Sw1.out; have := HZw1.out; have := HZw2.out; have := HZw3.out; have := HZw7.out; have := Epw10.out; have := Sw10.out; have := HZw10.out; have := HZw11.out; have := Epw15.out; have := Sw15.out; have := HZw15.out; have := HZw16.out; have := Epw19.out; have := Sw19.out; have := HZw19.out; have := HZw20.out; have := HZwc.out; omega))
    replace HOr18 := Lib.hid (((HOr18.out.later hA).marked hg1 (fun g a c => by have h3 := HUr13.out g a; have h4 := HUr18.out g c; have := Epw1.out; have := Sw1.out; have := HZw1.out; have := HZw2.out; have := HZw3.out; have := HZw7.out; have := Epw10.out; have := Sw10.out; have := HZw10.out; have := HZw11.out; have := Epw15.out; have := Sw15.out; have := HZw15.out; have := HZw16.out; have := Epw19.out; have := Sw19.out; have := HZw19.out; have := HZw20.out; have := HZwc.out; omega)).marked hg2 (fun g a c => by have h3 := HUr14.out g a; have h4 := HUr18.out g c; have := Epw1.out; have := Sw1.out; have := HZw1.out; have := HZw2.out; have := HZw3.out; have := HZw7.out; have := Epw10.out; have := Sw10.out; have := HZw10.out; have := HZw11.out; have := Epw15.out; have := Sw15.out; have := HZw15.out; have := HZw16.out; have := Epw19.out; have := Sw19.out; have := HZw19.out; have := HZw20.out; have := HZwc.out; omega))
    replace HA0 := Lib.hid (HA0.out.below hb (HA0'.out))
    replace HM0 := Lib.hid (HM0.out.below hb (HM0'.out))
    replace HB := Lib.hid (HB.out.trans hb)
    replace hz := Nat.le_trans hz hs
    have HZw22 := Lib.hid hs
    replace HOr13 := Lib.hid hoI
    replace HOr14 := Lib.hid hoS
    clear hap1 hb hs hA hg1 hg2 hoI hoS
    go_wp2_with fail
    refine (kit.eqAcceptorO T3 T4 T5 T6 _ _ (.slice yr17 T1.length qr17) (.slice yr18 T2.length qr18) T1 T2 T3 T4 T5 T6 _ _ (.slice yr8 T1.length qr8) (.slice yr9 T2.length qr9) T1 T2 w22 (by omega) (by omega) HOr17.out HOr18.out (by omega) (by omega) HOr8.out HOr9.out).mono ?_
    rintro e w23 ⟨he, hb⟩
    rw [decide_eq_true ⟨rfl, rfl, rfl, rfl, rfl, rfl⟩] at he
    subst he
    replace xpw1_0 := (hb.cell (p := ⟨pw1, 0, none⟩) hpw1).trans xpw1_0
    replace xpw1_1 := (hb.cell (p := ⟨pw1, 1, none⟩) hpw1).trans xpw1_1
    replace xpw1_2 := (hb.cell (p := ⟨pw1, 2, none⟩) hpw1).trans xpw1_2
    replace xpw1_3 := (hb.cell (p := ⟨pw1, 3, none⟩) hpw1).trans xpw1_3
    replace xpw1_4 := (hb.cell (p := ⟨pw1, 4, none⟩) hpw1).trans xpw1_4
    replace xpw1_5 := (hb.cell (p := ⟨pw1, 5, none⟩) hpw1).trans xpw1_5
    replace hpw1 := Nat.lt_of_lt_of_le hpw1 hb.size
    replace xpw10_0 := (hb.cell (p := ⟨pw10, 0, none⟩) hpw10).trans xpw10_0
    replace xpw10_1 := (hb.cell (p := ⟨pw10, 1, none⟩) hpw10).trans xpw10_1
    replace xpw10_2 := (hb.cell (p := ⟨pw10, 2, none⟩) hpw10).trans xpw10_2
    replace xpw10_3 := (hb.cell (p := ⟨pw10, 3, none⟩) hpw10).trans xpw10_3
    replace xpw10_4 := (hb.cell (p := ⟨pw10, 4, none⟩) hpw10).trans xpw10_4
    replace xpw10_5 := (hb.cell (p := ⟨pw10, 5, none⟩) hpw10).trans xpw10_5
    replace hpw10 := Nat.lt_of_lt_of_le hpw10 hb.size
    replace xpw15_0 := (hb.cell (p := ⟨pw15, 0, none⟩) hpw15).trans xpw15_0
    replace xpw15_1 := (hb.cell (p := ⟨pw15, 1, none⟩) hpw15).trans xpw15_1
    replace xpw15_2 := (hb.cell (p := ⟨pw15, 2, none⟩) hpw15).trans xpw15_2
    replace xpw15_3 := (hb.cell (p := ⟨pw15, 3, none⟩) hpw15).trans xpw15_3
    replace xpw15_4 := (hb.cell (p := ⟨pw15, 4, none⟩) hpw15).trans xpw15_4
    replace xpw15_5 := (hb.cell (p := ⟨pw15, 5, none⟩) hpw15).trans xpw15_5
    replace hpw15 := Nat.lt_of_lt_of_le hpw15 hb.size
    replace xpw19_0 := (hb.cell (p := ⟨pw19, 0, none⟩) hpw19).trans xpw19_0
    replace xpw19_1 := (hb.cell (p := ⟨pw19, 1, none⟩) hpw19).trans xpw19_1
    replace xpw19_2 := (hb.cell (p := ⟨pw19, 2, none⟩) hpw19).trans xpw19_2
    replace xpw19_3 := (hb.cell (p := ⟨pw19, 3, none⟩) hpw19).trans xpw19_3
    replace xpw19_4 := (hb.cell (p := ⟨pw19, 4, none⟩) hpw19).trans xpw19_4
    replace xpw19_5 := (hb.cell (p := ⟨pw19, 5, none⟩) hpw19).trans xpw19_5
    replace hpw19 := Nat.lt_of_lt_of_le hpw19 hb.size
    replace HB := Lib.hid (HB.out.trans (hb.mono hz))
    replace hz := Nat.le_trans hz hb.size
    have HZw23 := Lib.hid hb.size
    replace HOr5 := Lib.hid (HOr5.out.later hb)
    replace HOr6 := Lib.hid (HOr6.out.later hb)
    replace HOr8 := Lib.hid (HOr8.out.later hb)
    replace HOr9 := Lib.hid (HOr9.out.later hb)
    replace HOr13 := Lib.hid (HOr13.out.later hb)
    replace HOr14 := Lib.hid (HOr14.out.later hb)
    replace HOr17 := Lib.hid (HOr17.out.later hb)
    replace HOr18 := Lib.hid (HOr18.out.later hb)
    replace HA0 := Lib.hid (HA0.out.later hb)
    replace HM0 := Lib.hid (HM0.out.later hb)
    clear hb
    go_wp2_with fail
    refine (kit.markAcceptor T3 T4 T5 T6 _ _ (.slice yr17 T1.length qr17) (.slice yr18 T2.length qr18) T1 T2 w23 (by omega) (by omega) HOr17.out HOr18.out HPr17.out 1 rfl).mono ?_
    rintro e w24 ⟨rfl, hoI, hoS, wa, wb, hA, hg1, hg2⟩
    have hap1 := HPr17.out
    have hb : Below w.heap.size w23 w24 := ((hA.mono hz).grown hg1 (Nat.le_trans hz hA.size) (fun g h => by have := HUr17.out g h; have := Epw1.out; have := Sw1.out; have := HZw1.out; have := HZw2.out; have := HZw3.out; have := HZw7.out; have := Epw10.out; have := Sw10.out; have := HZw10.out; have := HZw11.out; have := Epw15.out; have := Sw15.out; have := HZw15.out; have := HZw16.out; have := Epw19.out; have := Sw19.out; have := HZw19.out; have := HZw20.out; have := HZwc.out; have := HZw22.out; have := HZw23.out; omega)).grown hg2 (Nat.le_trans hz (Nat.le_trans hA.size hg1.size)) (fun g h => by have := HUr18.out g h; have := Epw1.out; have := Sw1.out; have := HZw1.out; have := HZw2.out; have := HZw3.out; have := HZw7.out; have := Epw10.out; have := Sw10.out; have := HZw10.out; have := HZw11.out; have := Epw15.out; have := Sw15.out; have := HZw15.out; have := HZw16.out; have := Epw19.out; have := Sw19.out; have := HZw19.out; have := HZw20.out; have := HZwc.out; have := HZw22.out; have := HZw23.out; omega)
    have hs : w23.heap.size ≤ w24.heap.size := hb.size
    replace xpw1_0 := (World.cell?_of_block (a := ⟨pw1, 0, none⟩) (kit.still hA hg1 hg2 (b := pw1) hpw1 (fun e => by have := HUr17.out _ e; have := Epw1.out; have := Sw1.out; have := HZw1.out; have := HZw2.out; have := HZw3.out; have := HZw7.out; have := Epw10.out; have := Sw10.out; have := HZw10.out; have := HZw11.out; have := Epw15.out; have := Sw15.out; have := HZw15.out; have := HZw16.out; have := Epw19.out; have := Sw19.out; have := HZw19.out; have := HZw20.out; have := HZwc.out; have := HZw22.out; have := HZw23.out; omega) (fun e => by have := HUr18.out _ e; have := Epw1.out; have := Sw1.out; have := HZw1.out; have := HZw2.out; have := HZw3.out; have := HZw7.out; have := Epw10.out; have := Sw10.out; have := HZw10.out; have := HZw11.out; have := Epw15.out; have := Sw15.out; have := HZw15.out; have := HZw16.out; have := Epw19.out; have := Sw19.out; have := HZw19.out; have := HZw20.out; have := HZwc.out; have := HZw22.out; have := HZw23.out; omega))).trans xpw1_0
    replace xpw1_1 := (World.cell?_of_block (a := ⟨pw1, 1, none⟩) (kit.still hA hg1 hg2 (b := pw1) hpw1 (fun e => by have := HUr17.out _ e; have := Epw1.out; have := Sw1.out; have := HZw1.out; have := HZw2.out; have := HZw3.out; have := HZw7.out; have := Epw10.out; have := Sw10.out; have := HZw10.out; have := HZw11.out; have := Epw15.out; have := Sw15.out; have := HZw15.out; have := HZw16.out; have := Epw19.out; have := Sw19.out; have := HZw19.out; have := HZw20.out; have := HZwc.out; have := HZw22.out; have := HZw23.out; omega) (fun e => by have := HUr18.out _ e; have := Epw1.out; have := Sw1.out; have := HZw1.out; have := HZw2.out; have := HZw3.out; have := HZw7.out; have := Epw10.out; have := Sw10.out; have := HZw10.out; have := HZw11.out; have := Epw15.out; have := Sw15.out; have := HZw15.out; have := HZw16.out; have := Epw19.out; have := Sw19.out; have := HZw19.out; have := HZw20.out; have := HZwc.out; have := HZw22.out; have := HZw23.out; omega))).trans xpw1_1
    replace xpw1_2 := (World.cell?_of_block (a := ⟨pw1, 2, none⟩) (kit.still hA hg1 hg2 (b := pw1) hpw1 (fun e => by have := HUr17.out _ e; have := Epw1.out; have := Sw1.out; have := HZw1.out; have := HZw2.out; have := HZw3.out; have := HZw7.out; have := Epw10.out; have := Sw10.out; have := HZw10.out; have := HZw11.out; have := Epw15.out; have := Sw15.out; have := HZw15.out; have := HZw16.out; have := Epw19.out; have := Sw19.out; have := HZw19.out; have := HZw20.out; have := HZwc.out; have := HZw22.out; have := HZw23.out; omega) (fun e => by have := HUr18.out _ e; have := Epw1.out; have := Sw1.out; have := HZw1.out; have := HZw2.out; have := HZw3.out; have := HZw7.out; have := Epw10.out; have := Sw10.out; have := HZw10.out; have := HZw11.out; have := Epw15.out; have := Sw15.out; have := HZw15.out; have := HZw16.out; have := Epw19.out; have := Sw19.out; have := HZw19.out; have := HZw20.out; have := HZwc.out; have := HZw22.out; have := HZw23.out; omega))).trans xpw1_2
    replace xpw1_3 := (World.cell?_of_block (a := ⟨pw1, 3, none⟩) (kit.still hA hg1 hg2 (b := pw1) hpw1 (fun e => by have := HUr17.out _ e; have := Epw1.out; have := Sw1.out; have := HZw1.out; have := HZw2.out; have := HZw3.out; have := HZw7.out; have := Epw10.out; have := Sw10.out; have := HZw10.out; have := HZw11.out; have := Epw15.out; have := Sw15.out; have := HZw15.out; have := HZw16.out; have := Epw19.out; have := Sw19.out; have := HZw19.out; have := HZw20.out; have := HZwc.out; have := HZw22.out; have := HZw23.out; omega) (fun e => by have := HUr18.out _ e; have := Epw1.out; have := Sw1.out; have := HZw1.out; have := HZw2.out; have := HZw3.out; have := HZw7.out; have := Epw10.out; have := Sw10.out; have := HZw10.out; have := HZw11.out; have := Epw15.out; have := Sw15.out; have := HZw15.out; have := HZw16.out; have := Epw19.out; have := Sw19.out; have := HZw19.out; have := HZw20.out; have := HZwc.out; have := HZw22.out; have := HZw23.out; omega))).trans xpw1_3
    replace xpw1_4 := (World.cell?_of_block (a := ⟨pw1, 4, none⟩) (kit.still hA hg1 hg2 (b := pw1) hpw1 (fun e => by have := HUr17.out _ e; have := Epw1.out; have := Sw1.out; have := HZw1.out; have := HZw2.out; have := HZw3.out; have := HZw7.out; have := Epw10.out; have := Sw10.out; have := HZw10.out; have := HZw11.out; have := Epw15.out; have := Sw15.out; have := HZw15.out; have := HZw16.out; have := Epw19.out; have := Sw19.out; have := HZw19.out; have := HZw20.out; have := HZwc.out; have := HZw22.out; have := HZw23.out; omega) (fun e => by have := HUr18.out _ e; have := Epw1.out; have := Sw1.out; have := HZw1.out; have := HZw2.out; have := HZw3.out; have := HZw7.out; have := Epw10.out; have := Sw10.out; have := HZw10.out; have := HZw11.out; have := Epw15.out; have := Sw15.out; have := HZw15.out; have := HZw16.out; have := Epw19.out; have := Sw19.out; have := HZw19.out; have := HZw20.out; have := HZwc.out; have := HZw22.out; have := HZw23.out; omega))).trans xpw1_4
    replace xpw1_5 := (World.cell?_of_block (a := ⟨pw1, 5, none⟩) (kit.still hA hg1 hg2 (b := pw1) hpw1 (fun e => by have := HUr17.out _ e; have := Epw1.out; have := Sw1.out; have := HZw1.out; have := HZw2.out; have := HZw3.out; have := HZw7.out; have := Epw10.out; have := Sw10.out; have := HZw10.out; have := HZw11.out; have := Epw15.out; have := Sw15.out; have := HZw15.out; have := HZw16.out; have := Epw19.out; have := Sw19.out; have := HZw19.out; have := HZw20.out; have := HZwc.out; have := HZw22.out; have := HZw23.out; omega) (fun e => by have := HUr18.out _ e; have := Epw1.out; have := Sw1.out; have := HZw1.out; have := HZw2.out; have := HZw3.out; have := HZw7.out; have := Epw10.out; have := Sw10.out; have := HZw10.out; have := HZw11.out; have := Epw15.out; have := Sw15.out; have := HZw15.out; have := HZw16.out; have := Epw19.out; have := Sw19.out; have := HZw19.out; have := HZw20.out; have := HZwc.out; have := HZw22.out; have := HZw23.out; omega))).trans xpw1_5
    replace hpw1 := Nat.lt_of_lt_of_le hpw1 hs
    replace xpw10_0 := (World.cell?_of_block (a := ⟨pw10, 0, none⟩) (kit.still hA hg1 hg2 (b := pw10) hpw10 (fun e => by have := HUr17.out _ e; have := Epw1.out; have := Sw1.out; have := HZw1.out; have := HZw2.out; have := HZw3.out; have := HZw7.out; have := Epw10.out; have := Sw10.out; have := HZw10.out; have := HZw11.out; have := Epw15.out; have := Sw15.out; have := HZw15.out; have := HZw16.out; have := Epw19.out; have := Sw19.out; have := HZw19.out; have := HZw20.out; have := HZwc.out; have := HZw22.out; have := HZw23.out; omega) (fun e => by have := HUr18.out _ e; have := Epw1.out; have := Sw1.out; have := HZw1.out; have := HZw2.out; have := HZw3.out; have := HZw7.out; have := Epw10.out; have := Sw10.out; have := HZw10.out; have := HZw11.out; have := Epw15.out; have := Sw15.out; have := HZw15.out; have := HZw16.out; have := Epw19.out; have := Sw19.out; have := HZw19.out; have := HZw20.out; have := HZwc.out; have := HZw22.out; have := HZw23.out; omega))).trans xpw10_0
    replace xpw10_1 := (World.cell?_of_block (a := ⟨pw10, 1, none⟩) (kit.still hA hg1 hg2 (b := pw10) hpw10 (fun e => by have := HUr17.out _ e; have := Epw1.out; have := Sw1.out; have := HZw1.out; have := HZw2.out; have := HZw3.out; have := HZw7.out; have := Epw10.out; have := Sw10.out; have := HZw10.out; have := HZw11.out; have := Epw15.out; have := Sw15.out; have := HZw15.out; have := HZw16.out; have := Epw19.out; have := Sw19.out; have := HZw19.out; have := HZw20.out; have := HZwc.out; have := HZw22.out; have := HZw23.out; omega) (fun e => by have := HUr18.out _ e; have := Epw1.out; have := Sw1.out; have := HZw1.out; have := HZw2.out; have := HZw3.out; have := HZw7.out; have := Epw10.out; have := Sw10.out; have := HZw10.out; have := HZw11.out; have := Epw15.out; have := Sw15.out; have := HZw15.out; have := HZw16.out; have := Epw19.out; have := Sw19.out; have := HZw19.out; have := HZw20.out; have := HZwc.out; have := HZw22.out; have := HZw23.out; omega))).trans xpw10_1
    replace xpw10_2 := (World.cell?_of_block (a := ⟨pw10, 2, none⟩) (kit.still hA hg1 hg2 (b := pw10) hpw10 (fun e => by have := HUr17.out _ e; have := Epw1.out; have := Sw1.out; have := HZw1.out; have := HZw2.out; have := HZw3.out; have := HZw7.out; have := Epw10.out; have := Sw10.out; have := HZw10.out; have := HZw11.out; have := Epw15.out; have := Sw15.out; have := HZw15.out; have := HZw16.out; have := Epw19.out; have := Sw19.out; have := HZw19.out; have := HZw20.out; have := HZwc.out; have := HZw22.out; have := HZw23.out; omega) (fun e => by have := HUr18.out _ e; have := Epw1.out; have := Sw1.out; have := HZw1.out; have := HZw2.out; have := HZw3.out; have := HZw7.out; have := Epw10.out; have := Sw10.out; have := HZw10.out; have := HZw11.out; have := Epw15.out; have := Sw15.out; have := HZw15.out; have := HZw16.out; have := Epw19.out; have := Sw19.out; have := HZw19.out; have := HZw20.out; have := HZwc.out; have := HZw22.out; have := HZw23.out; omega))).trans xpw10_2
    replace xpw10_3 := (World.cell?_of_block (a := ⟨pw10, 3, none⟩) (kit.still hA hg1 hg2 (b := pw10) hpw10 (fun e => by have := HUr17.out _ e; have := Epw1.out; have := Sw1.out; have := HZw1.out; have := HZw2.out; have := HZw3.out; have := HZw7.out; have := Epw10.out; have := Sw10.out; have := HZw10.out; have := HZw11.out; have := Epw15.out; have := Sw15.out; have := HZw15.out; have := HZw16.out; have := Epw19.out; have := Sw19.out; have := HZw19.out; have := HZw20.out; have := HZwc.out; have := HZw22.out; have := HZw23.out; omega) (fun e => by have := HUr18.out _ e; have := Epw1.out; have := Sw1.out; have := HZw1.out; have := HZw2.out; have := HZw3.out; have := HZw7.out; have := Epw10.out; have := Sw10.out; have := HZw10.out; have := HZw11.out; have := Epw15.out; have := Sw15.out; have := HZw15.out; have := HZw16.out; have := Epw19.out; have := Sw19.out; have := HZw19.out; have := HZw20.out; have := HZwc.out; have := HZw22.out; have := HZw23.out; omega))).trans xpw10_3
    replace xpw10_4 := (World.cell?_of_block (a := ⟨pw10, 4, none⟩) (kit.still hA hg1 hg2 (b := pw10) hpw10 (fun e => by have := HUr17.out _ e; have := Epw1.out; have := Sw1.out; have := HZw1.out; have := HZw2.out; have := HZw3.out; have := HZw7.out; have := Epw10.out; have := Sw10.out; have := HZw10.out; have := HZw11.out; have := Epw15.out; have := Sw15.out; have := HZw15.out; have := HZw16.out; have := Epw19.out; have := Sw19.out; have := HZw19.out; have := HZw20.out; have := HZwc.out; have := HZw22.out; have := HZw23.out; omega) (fun e => by have := HUr18.out _ e; have := Epw1.out; have := Sw1.out; have := HZw1.out; have := HZw2.out; have := HZw3.out; have := HZw7.out; have := Epw10.out; have := Sw10.out; have := HZw10.out; have := HZw11.out; have := Epw15.out; have := Sw15.out; have := HZw15.out; have := HZw16.out; have := Epw19.out; have := Sw19.out; have := HZw19.out; have := HZw20.out; have := HZwc.out; have := HZw22.out; have := HZw23.out; omega))).trans xpw10_4
    replace xpw10_5 := (World.cell?_of_block (a := ⟨pw10, 5, none⟩) (kit.still hA hg1 hg2 (b := pw10) hpw10 (fun e => by have := HUr17.out _ e; have := Epw1.out; have := Sw1.out; have := HZw1.out; have := HZw2.out; have := HZw3.out; have := HZw7.out; have := Epw10.out; have := Sw10.out; have := HZw10.out; have := HZw11.out; have := Epw15.out; have := Sw15.out; have := HZw15.out; have := HZw16.out; have := Epw19.out; have := Sw19.out; have := HZw19.out; have := HZw20.out; have := HZwc.out; have := HZw22.out; have := HZw23.out; omega) (fun e => by have := HUr18.out _ e; have := Epw1.out; have := Sw1.out; have := HZw1.out; have := HZw2.out; have := HZw3.out; have := HZw7.out; have := Epw10.out; have := Sw10.out; have := HZw10.out; have := HZw11.out; have := Epw15.out; have := Sw15.out; have := HZw15.out; have := HZw16.out; have := Epw19.out; have := Sw19.out; have := HZw19.out; have := HZw20.out; have := HZwc.out; have := HZw22.out; have := HZw23.out; omega))).trans xpw10_5
    replace hpw10 := Nat.lt_of_lt_of_le hpw10 hs
    replace xpw15_0 := (World.cell?_of_block (a := ⟨pw15, 0, none⟩) (kit.still hA hg1 hg2 (b := pw15) hpw15 (fun e => by have := HUr17.out _ e; have := Epw1.out; have := Sw1.out; have := HZw1.out; have := HZw2.out; have := HZw3.out; have := HZw7.out; have := Epw10.out; have := Sw10.out; have := HZw10.out; have := HZw11.out; have := Epw15.out; have := Sw15.out; have := HZw15.out; have := HZw16.out; have := Epw19.out; have := Sw19.out; have := HZw19.out; have := HZw20.out; have := HZwc.out; have := HZw22.out; have := HZw23.out; omega) (fun e => by have := HUr18.out _ e; have := Epw1.out; have := Sw1.out; have := HZw1.out; have := HZw2.out; have := HZw3.out; have := HZw7.out; have := Epw10.out; have := Sw10.out; have := HZw10.out; have := HZw11.out; have := Epw15.out; have := Sw15.out; have := HZw15.out; have := HZw16.out; have := Epw19.out; have := Sw19.out; have := HZw19.out; have := HZw20.out; have := HZwc.out; have := HZw22.out; have := HZw23.out; omega))).trans xpw15_0
    replace xpw15_1 := (World.cell?_of_block (a := ⟨pw15, 1, none⟩) (kit.still hA hg1 hg2 (b := pw15) hpw15 (fun e => by have := HUr17.out _ e; have := Epw1.out; have := Sw1.out; have := HZw1.out; have := HZw2.out; have := HZw3.out; have := HZw7.out; have := Epw10.out; have := Sw10.out; have := HZw10.out; have := HZw11.out; have := Epw15.out; have := Sw15.out; have := HZw15.out; have := HZw16.out; have := Epw19.out; have := Sw19.out; have := HZw19.out; have := HZw20.out; have := HZwc.out; have := HZw22.out; have := HZw23.out; omega) (fun e => by have := HUr18.out _ e; have := Epw1.out; have := Sw1.out; have := HZw1.out; have := HZw2.out; have := HZw3.out; have := HZw7.out; have := Epw10.out; have := Sw10.out; have := HZw10.out; have := HZw11.out; have := Epw15.out; have := Sw15.out; have := HZw15.out; have := HZw16.out; have := Epw19.out; have := Sw19.out; have := HZw19.out; have := HZw20.out; have := HZwc.out; have := HZw22.out; have := HZw23.out; omega))).trans xpw15_1
    replace xpw15_2 := (World.cell?_of_block (a := ⟨pw15, 2, none⟩) (kit.still hA hg1 hg2 (b := pw15) hpw15 (fun e => by have := HUr17.out _ e; have := Epw1.out; have := Sw1.out; have := HZw1.out; have := HZw2.out; have := HZw3.out; have := HZw7.out; have := Epw10.out; have := Sw10.out; have := HZw10.out; have := HZw11.out; have := Epw15.out; have := Sw15.out; have := HZw15.out; have := HZw16.out; have := Epw19.out; have := Sw19.out; have := HZw19.out; have := HZw20.out; have := HZwc.out; have := HZw22.out; have := HZw23.out; omega) (fun e => by have := HUr18.out _ e; have := Epw1.out; have := Sw1.out; have := HZw1.out; have := HZw2.out; have := HZw3.out; have := HZw7.out; have := Epw10.out; have := Sw10.out; have := HZw10.out; have := HZw11.out; have := Epw15.out; have := Sw15.out; have := HZw15.out; have := HZw16.out; have := Epw19.out; have := Sw19.out; have := HZw19.out; have := HZw20.out; have := HZwc.out; have := HZw22.out; have := HZw23.out; omega))).trans xpw15_2
    replace xpw15_3 := (World.cell?_of_block (a := ⟨pw15, 3, none⟩) (kit.still hA hg1 hg2 (b := pw15) hpw15 (fun e => by have := HUr17.out _ e; have := Epw1.out; have := Sw1.out; have := HZw1.out; have := HZw2.out; have := HZw3.out; have := HZw7.out; have := Epw10.out; have := Sw10.out; have := HZw10.out; have := HZw11.out; have := Epw15.out; have := Sw15.out; have := HZw15.out; have := HZw16.out; have := Epw19.out; have := Sw19.out; have := HZw19.out; have := HZw20.out; have := HZwc.out; have := HZw22.out; have := HZw23.out; omega) (fun e => by have := HUr18.out _ e; have := Epw1.out; have := Sw1.out; have := HZw1.out; have := HZw2.out; have := HZw3.out; have := HZw7.out; have := Epw10.out; have := Sw10.out; have := HZw10.out; have := HZw11.out; have := Epw15.out; have := Sw15.out; have := HZw15.out; have := HZw16.out; have := Epw19.out; have := Sw19.out; have := HZw19.out; have := HZw20.out; have := HZwc.out; have := HZw22.out; have := HZw23.out; omega))).trans xpw15_3
    replace xpw15_4 := (World.cell?_of_block (a := ⟨pw15, 4, none⟩) (kit.still hA hg1 hg2 (b := pw15) hpw15 (fun e => by have := HUr17.out _ e; have := Epw1.out; have := Sw1.out; have := HZw1.out; have := HZw2.out; have := HZw3.out; have := HZw7.out; have := Epw10.out; have := Sw10.out; have := HZw10.out; have := HZw11.out; have := Epw15.out; have := Sw15.out; have := HZw15.out; have := HZw16.out; have := Epw19.out; have := Sw19.out; have := HZw19.out; have := HZw20.out; have := HZwc.out; have := HZw22.out; have := HZw23.out; omega) (fun e => by have := HUr18.out _ e; have := Epw1.out; have := Sw1.out; have := HZw1.out; have := HZw2.out; have := HZw3.out; have := HZw7.out; have := Epw10.out; have := Sw10.out; have := HZw10.out; have := HZw11.out; have := Epw15.out; have := Sw15.out; have := HZw15.out; have := HZw16.out; have := Epw19.out; have := Sw19.out; have := HZw19.out; have := HZw20.out; have := HZwc.out; have := HZw22.out; have := HZw23.out; omega))).trans xpw15_4
    replace xpw15_5 := (World.cell?_of_block (a := ⟨pw15, 5, none⟩) (kit.still hA hg1 hg2 (b := pw15) hpw15 (fun e => by have := HUr17.out _ e; have := Epw1.out; have := Sw1.out; have := HZw1.out; have := HZw2.out; have := HZw3.out; have := HZw7.out; have := Epw10.out; have := Sw10.out; have := HZw10.out; have := HZw11.out; have := Epw15.out; have := Sw15.out; have := HZw15.out; have := HZw16.out; have := Epw19.out; have := Sw19.out; have := HZw19.out; have := HZw20.out; have := HZwc.out; have := HZw22.out; have := HZw23.out; omega) (fun e => by have := HUr18.out _ e; have := Epw1.out; have := Sw1.out; have := HZw1.out; have := HZw2.out; have := HZw3.out; have := HZw7.out; have := Epw10.out; have := Sw10.out; have := HZw10.out; have := HZw11.out; have := Epw15.out; have := Sw15.out; have := HZw15.out; have := HZw16.out; have := Epw19.out; have := Sw19.out; have := HZw19.out; have := HZw20.out; have := HZwc.out; have := HZw22.out; have := HZw23.out; omega))).trans xpw15_5
    replace hpw15 := Nat.lt_of_lt_of_le hpw15 hs
    replace xpw19_0 := (World.cell?_of_block (a := ⟨pw19, 0, none⟩) (kit.still hA hg1 hg2 (b := pw19) hpw19 (fun e => by have := HUr17.out _ e; have := Epw1.out; have := Sw1.out; have := HZw1.out; have := HZw2.out; have := HZw3.out; have := HZw7.out; have := Epw10.out; have := Sw10.out; have := HZw10.out; have := HZw11.out; have := Epw15.out; have := Sw15.out; have := HZw15.out; have := HZw16.out; have := Epw19.out; have := Sw19.out; have := HZw19.out; have := HZw20.out; have := HZwc.out; have := HZw22.out; have := HZw23.out; omega) (fun e => by have := HUr18.out _ e; have := Epw1.out; have := Sw1.out; have := HZw1.out; have := HZw2.out; have := HZw3.out; have := HZw7.out; have := Epw10.out; have := Sw10.out; have := HZw10.out; have := HZw11.out; have := Epw15.out; have := Sw15.out; have := HZw15.out; have := HZw16.out; have := Epw19.out; have := Sw19.out; have := HZw19.out; have := HZw20.out; have := HZwc.out; have := HZw22.out; have := HZw23.out; omega))).trans xpw19_0
    replace xpw19_1 := (World.cell?_of_block (a := ⟨pw19, 1, none⟩) (kit.still hA hg1 hg2 (b := pw19) hpw19 (fun e => by have := HUr17.out _ e; have := Epw1.out; have := Sw1.out; have := HZw1.out; have := HZw2.out; have := HZw3.out; have := HZw7.out; have := Epw10.out; have := Sw10.out; have := HZw10.out; have := HZw11.out; have := Epw15.out; have := Sw15.out; have := HZw15.out; have := HZw16.out; have := Epw19.out; have := Sw19.out; have := HZw19.out; have := HZw20.out; have := HZwc.out; have := HZw22.out; have := HZw23.out; omega) (fun e => by have := HUr18.out _ e; have := Epw1.out; have := Sw1.out; have := HZw1.out; have := HZw2.out; have := HZw3.out; have := HZw7.out; have := Epw10.out; have := Sw10.out; have := HZw10.out; have := HZw11.out; have := Epw15.out; have := Sw15.out; have := HZw15.out; have := HZw16.out; have := Epw19.out; have := Sw19.out; have := HZw19.out; have := HZw20.out; have := HZwc.out; have := HZw22.out; have := HZw23.out; omega))).trans xpw19_1
    replace xpw19_2 := (World.cell?_of_block (a := ⟨pw19, 2, none⟩) (kit.still hA hg1 hg2 (b := pw19) hpw19 (fun e => by have := HUr17.out _ e; have := Epw1.out; have := Sw1.out; have := HZw1.out; have := HZw2.out; have := HZw3.out; have := HZw7.out; have := Epw10.out; have := Sw10.out; have := HZw10.out; have := HZw11.out; have := Epw15.out; have := Sw15.out; have := HZw15.out; have := HZw16.out; have := Epw19.out; have := Sw19.out; have := HZw19.out; have := HZw20.out; have := HZwc.out; have := HZw22.out; have := HZw23.out; omega) (fun e => by have := HUr18.out _ e; have := Epw1.out; have := Sw1.out; have := HZw1.out; have := HZw2.out; have := HZw3.out; have := HZw7.out; have := Epw10.out; have := Sw10.out; have := HZw10.out; have := HZw11.out; have := Epw15.out; have := Sw15.out; have := HZw15.out; have := HZw16.out; have := Epw19.out; have := Sw19.out; have := HZw19.out; have := HZw20.out; have := HZwc.out; have := HZw22.out; have := HZw23.out; omega))).trans xpw19_2
    replace xpw19_3 := (World.cell?_of_block (a := ⟨pw19, 3, none⟩) (kit.still hA hg1 hg2 (b := pw19) hpw19 (fun e => by have := HUr17.out _ e; have := Epw1.out; have := Sw1.out; have := HZw1.out; have := HZw2.out; have := HZw3.out; have := HZw7.out; have := Epw10.out; have := Sw10.out; have := HZw10.out; have := HZw11.out; have := Epw15.out; have := Sw15.out; have := HZw15.out; have := HZw16.out; have := Epw19.out; have := Sw19.out; have := HZw19.out; have := HZw20.out; have := HZwc.out; have := HZw22.out; have := HZw23.out; omega) (fun e => by have := HUr18.out _ e; have := Epw1.out; have := Sw1.out; have := HZw1.out; have := HZw2.out; have := HZw3.out; have := HZw7.out; have := Epw10.out; have := Sw10.out; have := HZw10.out; have := HZw11.out; have := Epw15.out; have := Sw15.out; have := HZw15.out; have := HZw16.out; have := Epw19.out; have := Sw19.out; have := HZw19.out; have := HZw20.out; have := HZwc.out; have := HZw22.out; have := HZw23.out; omega))).trans xpw19_3
    replace xpw19_4 := (World.cell?_of_block (a := ⟨pw19, 4, none⟩) (kit.still hA hg1 hg2 (b := pw19) hpw19 (fun e => by have := HUr17.out _ e; have := Epw1.out; have := Sw1.out; have := HZw1.out; have := HZw2.out; have := HZw3.out; have := HZw7.out; have := Epw10.out; have := Sw10.out; have := HZw10.out; have := HZw11.out; have := Epw15.out; have := Sw15.out; have := HZw15.out; have := HZw16.out; have := Epw19.out; have := Sw19.out; have := HZw19.out; have := HZw20.out; have := HZwc.out; have := HZw22.out; have := HZw23.out; omega) (fun e => by have := HUr18.out _ e; have := Epw1.out; have := Sw1.out; have := HZw1.out; have := HZw2.out; have := HZw3.out; have := HZw7.out; have := Epw10.out; have := Sw10.out; have := HZw10.out; have := HZw11.out; have := Epw15.out; have := Sw15.out; have := HZw15.out; have := HZw16.out; have := Epw19.out; have := Sw19.out; have := HZw19.out; have := HZw20.out; have := HZwc.out; have := HZw22.out; have := HZw23.out; omega))).trans xpw19_4
    replace xpw19_5 := (World.cell?_of_block (a := ⟨pw19, 5, none⟩) (kit.still hA hg1 hg2 (b := pw19) hpw19 (fun e => by have := HUr17.out _ e; have := Epw1.out; have := Sw1.out; have := HZw1.out; have := HZw2.out; have := HZw3.out; have := HZw7.out; have := Epw10.out; have := Sw10.out; have := HZw10.out; have := HZw11.out; have := Epw15.out; have := Sw15.out; have := HZw15.out; have := HZw16.out; have := Epw19.out; have := Sw19.out; have := HZw19.out; have := HZw20.out; have := HZwc.out; have := HZw22.out; have := HZw23.out; omega) (fun e => by have := HUr18.out _ e; have := Epw1.out; have := Sw1.out; have := HZw1.out; have := HZw2.out; have := HZw3.out; have := HZw7.out; have := Epw10.out; have := Sw10.out; have := HZw10.out; have := HZw11.out; have := Epw15.out; have := Sw15.out; have := HZw15.out; have := HZw16.out; have := Epw19.out; have := Sw19.out; have := HZw19.out; have := HZw20.out; have := HZwc.out; have := HZw22.out; have := HZw23.out; omega))).trans xpw19_5
    replace hpw19 := Nat.lt_of_lt_of_le hpw19 hs
    replace HOr5 := Lib.hid (((HOr5.out.later hA).marked hg1 (fun g a c => by have h3 := HUr17.out g a; have h4 := HUr5.out g c; have := Epw1.out; have := Sw1.out; have := HZw1.out; have := HZw2.out; have := HZw3.out; have := HZw7.out; have := Epw10.out; have := Sw10.out; have := HZw10.out; have := HZw11.out; have := Epw15.out; have := Sw15.out; have := HZw15.out; have := HZw16.out; have := Epw19.out; have := Sw19.out; have := HZw19.out; have := HZw20.out; have := HZwc.out; have := HZw22.out; have := HZw23.out; omega)).marked hg2 (fun g a c => by have h3 := HUr18.out g a; have h4 := HUr5.out g c; have := Epw1.out; have := Sw1.out; have := HZw1.out; have := HZw2.out; have := HZw3.out; have := HZw7.out; have := Epw10.out; have := Sw10.out; have := HZw10.out; have := HZw11.out; have := Epw15.out; have := Sw15.out; have := HZw15.out; have := HZw16.out; have := Epw19.out; have := Sw19.out; have := HZw19.out; have := HZw20.out; have := HZwc.out; have := HZw22.out; have := HZw23.out; omega))
    replace HOr6 := Lib.hid (((HOr6.out.later hA).marked hg1 (fun g a c => by have h3 := HUr17.out g a; have h4 := HUr6.out g c; have := Epw1.out; have := Sw1.out; have := HZw1.out; have := HZw2.out; have := HZw3.out; have := HZw7.out; have := Epw10.out; have := Sw10.out; have := HZw10.out; have := HZw11.out; have := Epw15.out; have := Sw15.out; have := HZw15.out; have := HZw16.out; have := Epw19.out; have := Sw19.out; have := HZw19.out; have := HZw20.out; have := HZwc.out; have := HZw22.out; have := HZw23.out; omega)).marked hg2 (fun g a c => by have h3 := HUr18.out g a; have h4 := HUr6.out g c; have := Epw1.out; have := Sw1.out; have := HZw1.out; have := HZw2.out; have := HZw3.out; have := HZw7.out; have := Epw10.out; have := Sw10.out; have := HZw10.out; have := HZw11.out; have := Epw15.out; have := Sw15.out; have := HZw15.out; have := HZw16.out; have := Epw19.out; have := Sw19.out; have := HZw19.out; have := HZw20.out; have := HZwc.out; have := HZw22.out; have := HZw23.out; omega))
    replace HOr8 := Lib.hid (((HOr8.out.later hA).marked hg1 (fun g a c => by have h3 := HUr17.out g a; have h4 := HUr8.out g c; have := Epw1.out; have := Sw1.out; have := HZw1.out; have := HZw2.out; have := HZw3.out; have := HZw7.out; have := Epw10.out; have := Sw10.out; have := HZw10.out; have := HZw11.out; have := Epw15.out; have := Sw15.out; have := HZw15.out; have := HZw16.out; have := Epw19.out; have := Sw19.out; have := HZw19.out; have := HZw20.out; have := HZwc.out; have := HZw22.out; have := HZw23.out; omega)).marked hg2 (fun g a c => by have h3 := HUr18.out g a; have h4 := HUr8.out g c; have := Epw1.out; have := Sw1.out; have := HZw1.out; have := HZw2.out; have := HZw3.out; have := HZw7.out; have := Epw10.out; have := Sw10.out; have := HZw10.out; have := HZw11.out; have := Epw15.out; have := Sw15.out; have := HZw15.out; have := HZw16.out; have := Epw19.out; have := Sw19.out; have := HZw19.out; have := HZw20.out; have := HZwc.out; have := HZw22.out; have := HZw23.out; omega))
    replace HOr9 := Lib.hid (((HOr9.out.later hA).marked hg1 (fun g a c => by have h3 := HUr17.out g a; have h4 := HUr9.out g c; have := Epw1.out; have := Sw1.out; have := HZw1.out; have := HZw2.out; have := HZw3.out; have := HZw7.out; have := Epw10.out; have := Sw10.out; have := HZw10.out; have := HZw11.out; have := Epw15.out; have := Sw15.out; have := HZw15.out; have := HZw16.out; have := Epw19.out; have := Sw19.out; have := HZw19.out; have := HZw20.out; have := HZwc.out; have := HZw22.out; have := HZw23.out; omega)).marked hg2 (fun g a c => by have h3 := HUr18.out g a; have h4 := HUr9.out g c; have := Epw1.out; have := Sw1.out; have := HZw1.out; have := HZw2.out; have := HZw3.out; have := HZw7.out; have := Epw10.out; have := Sw10.out; have := HZw10.out; have := HZw11.out; have := Epw15.out; have := Sw15.out; have := HZw15.out; have := HZw16.out; have := Epw19.out; have := Sw19.out; have := HZw19.out; have := HZw20.out; have := HZwc.out; have := HZw22.out; have := HZw23.out; omega))
    replace HOr13 := Lib.hid (((HOr13.out.later hA).marked hg1 (fun g a c => by have h3 := HUr17.out g a; have h4 := HUr13.out g c; have := Epw1.out; have := Sw1.out; have := HZw1.out; have := HZw2.out; have := HZw3.out; have := HZw7.out; have := Epw10.out; have := Sw10.out; have := HZw10.out; have := HZw11.out; have := Epw15.out; have := Sw15.out; have := HZw15.out; have := HZw16.out; have := Epw19.out; have := Sw19.out; have := HZw19.out; have := HZw20.out; have := HZwc.out; have := HZw22.out; have := HZw23.out; omega)).marked hg2 (fun g a c => by have h3 := HUr18.out g a; have h4 := HUr13.out g c; have := Epw1.out; have := Sw1.out; have := HZw1.out; have := HZw2.out; have := HZw3.out; have := HZw7.out; have := Epw10.out; have := Sw10.out; have := HZw10.out; have := HZw11.out; have := Epw15.out; have := Sw15.out; have := HZw15.out; have := HZw16.out; have := Epw19.out; have := Sw19.out; have := HZw19.out; have := HZw20.out; have := HZwc.out; have := HZw22.out; have := HZw23.out; omega))
    replace HOr14 := Lib.hid (((HOr14.out.later hA).marked hg1 (fun g a c => by have h3 := HUr17.out g a; have h4 := HUr14.out g c; have := Epw1.out; have := Sw1.out; have := HZw1.out; have := HZw2.out; have := HZw3.out; have := HZw7.out; have := Epw10.out; have := Sw10.out; have := HZw10.out; have := HZw11.out; have := Epw15.out; have := Sw15.out; have := HZw15.out; have := HZw16.out; have := Epw19.out; have := Sw19.out; have := HZw19.out; have := HZw20.out; have := HZwc.out; have := HZw22.out; have := HZw23.out; omega)).marked hg2 (fun g a c => by have h3 := HUr18.out g a; have h4 := HUr14.out g c; have := Epw1.out; have := Sw1.out; have := HZw1.out; have := HZw2.out; have := HZw3.out; have := HZw7.out; have := Epw10.out; have := Sw10.out; have := HZw10.out; have := HZw11.out; have := Epw15.out; have := Sw15.out; have := HZw15.out; have := HZw16.out; have := Epw19.out; have := Sw19.out; have := HZw19.out; have := HZw20.out; have := HZwc.out; have := HZw22.out; have := HZw23.out; omega))
    replace HA0 := Lib.hid (HA0.out.below hb (HA0'.out))
    replace HM0 := Lib.hid (HM0.out.below hb (HM0'.out))
    replace HB := Lib.hid (HB.out.trans hb)
    replace hz := Nat.le_trans hz hs
    have HZw24 := Lib.hid hs
    replace HOr17 := Lib.hid hoI
    replace HOr18 := Lib.hid hoS
    clear hap1 hb hs hA hg1 hg2 hoI hoS
    go_wp2_with fail
    refine (kit.heldAcceptor T3 T4 T5 T6 _ _ (.slice yr17 T1.length qr17) (.slice yr18 T2.length qr18) (T1.length) (T2.length) w24 (by omega) (by omega) HOr17.out HOr18.out 1 rfl).mono ?_
    rintro e w25 ⟨rfl, hb⟩
    replace xpw1_0 := (hb.cell (p := ⟨pw1, 0, none⟩) hpw1).trans xpw1_0
    replace xpw1_1 := (hb.cell (p := ⟨pw1, 1, none⟩) hpw1).trans xpw1_1
    replace xpw1_2 := (hb.cell (p := ⟨pw1, 2, none⟩) hpw1).trans xpw1_2
    replace xpw1_3 := (hb.cell (p := ⟨pw1, 3, none⟩) hpw1).trans xpw1_3
    replace xpw1_4 := (hb.cell (p := ⟨pw1, 4, none⟩) hpw1).trans xpw1_4
    replace xpw1_5 := (hb.cell (p := ⟨pw1, 5, none⟩) hpw1).trans xpw1_5
    replace hpw1 := Nat.lt_of_lt_of_le hpw1 hb.size
    replace xpw10_0 := (hb.cell (p := ⟨pw10, 0, none⟩) hpw10).trans xpw10_0
    replace xpw10_1 := (hb.cell (p := ⟨pw10, 1, none⟩) hpw10).trans xpw10_1
    replace xpw10_2 := (hb.cell (p := ⟨pw10, 2, none⟩) hpw10).trans xpw10_2
    replace xpw10_3 := (hb.cell (p := ⟨pw10, 3, none⟩) hpw10).trans xpw10_3
    replace xpw10_4 := (hb.cell (p := ⟨pw10, 4, none⟩) hpw10).trans xpw10_4
    replace xpw10_5 := (hb.cell (p := ⟨pw10, 5, none⟩) hpw10).trans xpw10_5
    replace hpw10 := Nat.lt_of_lt_of_le hpw10 hb.size
    replace xpw15_0 := (hb.cell (p := ⟨pw15, 0, none⟩) hpw15).trans xpw15_0
    replace xpw15_1 := (hb.cell (p := ⟨pw15, 1, none⟩) hpw15).trans xpw15_1
    replace xpw15_2 := (hb.cell (p := ⟨pw15, 2, none⟩) hpw15).trans xpw15_2
    replace xpw15_3 := (hb.cell (p := ⟨pw15, 3, none⟩) hpw15).trans xpw15_3
    replace xpw15_4 := (hb.cell (p := ⟨pw15, 4, none⟩) hpw15).trans xpw15_4
    replace xpw15_5 := (hb.cell (p := ⟨pw15, 5, none⟩) hpw15).trans xpw15_5
    replace hpw15 := Nat.lt_of_lt_of_le hpw15 hb.size
    replace xpw19_0 := (hb.cell (p := ⟨pw19, 0, none⟩) hpw19).trans xpw19_0
    replace xpw19_1 := (hb.cell (p := ⟨pw19, 1, none⟩) hpw19).trans xpw19_1
    replace xpw19_2 := (hb.cell (p := ⟨pw19, 2, none⟩) hpw19).trans xpw19_2
    replace xpw19_3 := (hb.cell (p := ⟨pw19, 3, none⟩) hpw19).trans xpw19_3
    replace xpw19_4 := (hb.cell (p := ⟨pw19, 4, none⟩) hpw19).trans xpw19_4
    replace xpw19_5 := (hb.cell (p := ⟨pw19, 5, none⟩) hpw19).trans xpw19_5
    replace hpw19 := Nat.lt_of_lt_of_le hpw19 hb.size
    replace HB := Lib.hid (HB.out.trans (hb.mono hz))
    replace hz := Nat.le_trans hz hb.size
    have HZw25 := Lib.hid hb.size
    replace HOr5 := Lib.hid (HOr5.out.later hb)
    replace HOr6 := Lib.hid (HOr6.out.later hb)
    replace HOr8 := Lib.hid (HOr8.out.later hb)
    replace HOr9 := Lib.hid (HOr9.out.later hb)
    replace HOr13 := Lib.hid (HOr13.out.later hb)
    replace HOr14 := Lib.hid (HOr14.out.later hb)
    replace HOr17 := Lib.hid (HOr17.out.later hb)
    replace HOr18 := Lib.hid (HOr18.out.later hb)
    replace HA0 := Lib.hid (HA0.out.later hb)
    replace HM0 := Lib.hid (HM0.out.later hb)
    clear hb
    go_wp2_with fail
    refine (kit.toAcceptor x0 y0 s0 t0 a0 c0 L0 b0 d0 M0 w25 (by omega) (by omega) HA0.out HM0.out).mono ?_
    rintro e w26 ⟨u27I, u27S, rfl, hoI, hoS, hb, hap⟩
    obtain ⟨yr28, qr28, rfl⟩ := hoI.shape
    obtain ⟨yr29, qr29, rfl⟩ := hoS.shape
    have HPr28 := Lib.hid hap
    clear hap
    replace xpw1_0 := (hb.cell (p := ⟨pw1, 0, none⟩) hpw1).trans xpw1_0
    replace xpw1_1 := (hb.cell (p := ⟨pw1, 1, none⟩) hpw1).trans xpw1_1
    replace xpw1_2 := (hb.cell (p := ⟨pw1, 2, none⟩) hpw1).trans xpw1_2
    replace xpw1_3 := (hb.cell (p := ⟨pw1, 3, none⟩) hpw1).trans xpw1_3
    replace xpw1_4 := (hb.cell (p := ⟨pw1, 4, none⟩) hpw1).trans xpw1_4
    replace xpw1_5 := (hb.cell (p := ⟨pw1, 5, none⟩) hpw1).trans xpw1_5
    replace hpw1 := Nat.lt_of_lt_of_le hpw1 hb.size
    replace xpw10_0 := (hb.cell (p := ⟨pw10, 0, none⟩) hpw10).trans xpw10_0
    replace xpw10_1 := (hb.cell (p := ⟨pw10, 1, none⟩) hpw10).trans xpw10_1
    replace xpw10_2 := (hb.cell (p := ⟨pw10, 2, none⟩) hpw10).trans xpw10_2
    replace xpw10_3 := (hb.cell (p := ⟨pw10, 3, none⟩) hpw10).trans xpw10_3
    replace xpw10_4 := (hb.cell (p := ⟨pw10, 4, none⟩) hpw10).trans xpw10_4
    replace xpw10_5 := (hb.cell (p := ⟨pw10, 5, none⟩) hpw10).trans xpw10_5
    replace hpw10 := Nat.lt_of_lt_of_le hpw10 hb.size
    replace xpw15_0 := (hb.cell (p := ⟨pw15, 0, none⟩) hpw15).trans xpw15_0
    replace xpw15_1 := (hb.cell (p := ⟨pw15, 1, none⟩) hpw15).trans xpw15_1
    replace xpw15_2 := (hb.cell (p := ⟨pw15, 2, none⟩) hpw15).trans xpw15_2
    replace xpw15_3 := (hb.cell (p := ⟨pw15, 3, none⟩) hpw15).trans xpw15_3
    replace xpw15_4 := (hb.cell (p := ⟨pw15, 4, none⟩) hpw15).trans xpw15_4
    replace xpw15_5 := (hb.cell (p := ⟨pw15, 5, none⟩) hpw15).trans xpw15_5
    replace hpw15 := Nat.lt_of_lt_of_le hpw15 hb.size
    replace xpw19_0 := (hb.cell (p := ⟨pw19, 0, none⟩) hpw19).trans xpw19_0
    replace xpw19_1 := (hb.cell (p := ⟨pw19, 1, none⟩) hpw19).trans xpw19_1
    replace xpw19_2 := (hb.cell (p := ⟨pw19, 2, none⟩) hpw19).trans xpw19_2
    replace xpw19_3 := (hb.cell (p := ⟨pw19, 3, none⟩) hpw19).trans xpw19_3
    replace xpw19_4 := (hb.cell (p := ⟨pw19, 4, none⟩) hpw19).trans xpw19_4
    replace xpw19_5 := (hb.cell (p := ⟨pw19, 5, none⟩) hpw19).trans xpw19_5
    replace hpw19 := Nat.lt_of_lt_of_le hpw19 hb.size
    replace HB := Lib.hid (HB.out.trans (hb.mono hz))
    replace hz := Nat.le_trans hz hb.size
    have HZw26 := Lib.hid hb.size
    replace HOr5 := Lib.hid (HOr5.out.later hb)
    replace HOr6 := Lib.hid (HOr6.out.later hb)
    replace HOr8 := Lib.hid (HOr8.out.later hb)
    replace HOr9 := Lib.hid (HOr9.out.later hb)
    replace HOr13 := Lib.hid (HOr13.out.later hb)
    replace HOr14 := Lib.hid (HOr14.out.later hb)
    replace HOr17 := Lib.hid (HOr17.out.later hb)
    replace HOr18 := Lib.hid (HOr18.out.later hb)
    replace HA0 := Lib.hid (HA0.out.later hb)
    replace HM0 := Lib.hid (HM0.out.later hb)
    have HOr28 := Lib.hid hoI
    have HUr28 := Lib.hid hoI.block
    clear hoI
    have HOr29 := Lib.hid hoS
    have HUr29 := Lib.hid hoS.block
    clear hoS
    clear hb
    go_wp2_with fail
    refine (kit.implPrepare x0 y0 s0 t0 _ _ (.slice yr28 L0.length qr28) (.slice yr29 M0.length qr29) L0 M0 a1 w26 (by omega) (by omega) HOr28.out HOr29.out).mono ?_
    rintro e w30 ⟨uI, uS, he, hoI, hoS, hb, hap⟩
    rw [HT1.out] at hoI
    rw [HT2.out] at hoS
    rw [HT3.out] at he
    rw [HT4.out] at he
    rw [HT5.out] at he
    rw [HT6.out] at he
    rw [HT7.out] at he
    obtain ⟨yr31, qr31, rfl⟩ := hoI.shape
    obtain ⟨yr32, qr32, rfl⟩ := hoS.shape
    have HPr31 := Lib.hid hap
    clear hap
    subst he
    replace xpw1_0 := (hb.cell (p := ⟨pw1, 0, none⟩) hpw1).trans xpw1_0
    replace xpw1_1 := (hb.cell (p := ⟨pw1, 1, none⟩) hpw1).trans xpw1_1
    replace xpw1_2 := (hb.cell (p := ⟨pw1, 2, none⟩) hpw1).trans xpw1_2
    replace xpw1_3 := (hb.cell (p := ⟨pw1, 3, none⟩) hpw1).trans xpw1_3
    replace xpw1_4 := (hb.cell (p := ⟨pw1, 4, none⟩) hpw1).trans xpw1_4
    replace xpw1_5 := (hb.cell (p := ⟨pw1, 5, none⟩) hpw1).trans xpw1_5
    replace hpw1 := Nat.lt_of_lt_of_le hpw1 hb.size
    replace xpw10_0 := (hb.cell (p := ⟨pw10, 0, none⟩) hpw10).trans xpw10_0
    replace xpw10_1 := (hb.cell (p := ⟨pw10, 1, none⟩) hpw10).trans xpw10_1
    replace xpw10_2 := (hb.cell (p := ⟨pw10, 2, none⟩) hpw10).trans xpw10_2
    replace xpw10_3 := (hb.cell (p := ⟨pw10, 3, none⟩) hpw10).trans xpw10_3
    replace xpw10_4 := (hb.cell (p := ⟨pw10, 4, none⟩) hpw10).trans xpw10_4
    replace xpw10_5 := (hb.cell (p := ⟨pw10, 5, none⟩) hpw10).trans xpw10_5
    replace hpw10 := Nat.lt_of_lt_of_le hpw10 hb.size
    replace xpw15_0 := (hb.cell (p := ⟨pw15, 0, none⟩) hpw15).trans xpw15_0
    replace xpw15_1 := (hb.cell (p := ⟨pw15, 1, none⟩) hpw15).trans xpw15_1
    replace xpw15_2 := (hb.cell (p := ⟨pw15, 2, none⟩) hpw15).trans xpw15_2
    replace xpw15_3 := (hb.cell (p := ⟨pw15, 3, none⟩) hpw15).trans xpw15_3
    replace xpw15_4 := (hb.cell (p := ⟨pw15, 4, none⟩) hpw15).trans xpw15_4
    replace xpw15_5 := (hb.cell (p := ⟨pw15, 5, none⟩) hpw15).trans xpw15_5
    replace hpw15 := Nat.lt_of_lt_of_le hpw15 hb.size
    replace xpw19_0 := (hb.cell (p := ⟨pw19, 0, none⟩) hpw19).trans xpw19_0
    replace xpw19_1 := (hb.cell (p := ⟨pw19, 1, none⟩) hpw19).trans xpw19_1
    replace xpw19_2 := (hb.cell (p := ⟨pw19, 2, none⟩) hpw19).trans xpw19_2
    replace xpw19_3 := (hb.cell (p := ⟨pw19, 3, none⟩) hpw19).trans xpw19_3
    replace xpw19_4 := (hb.cell (p := ⟨pw19, 4, none⟩) hpw19).trans xpw19_4
    replace xpw19_5 := (hb.cell (p := ⟨pw19, 5, none⟩) hpw19).trans xpw19_5
    replace hpw19 := Nat.lt_of_lt_of_le hpw19 hb.size
    replace HB := Lib.hid (HB.out.trans (hb.mono hz))
    replace hz := Nat.le_trans hz hb.size
    have HZw30 := Lib.hid hb.size
    replace HOr5 := Lib.hid (HOr5.out.later hb)
    replace HOr6 := Lib.hid (HOr6.out.later hb)
    replace HOr8 := Lib.hid (HOr8.out.later hb)
    replace HOr9 := Lib.hid (HOr9.out.later hb)
    replace HOr13 := Lib.hid (HOr13.out.later hb)
    replace HOr14 := Lib.hid (HOr14.out.later hb)
    replace HOr17 := Lib.hid (HOr17.out.later hb)
    replace HOr18 := Lib.hid (HOr18.out.later hb)
    replace HOr28 := Lib.hid (HOr28.out.later hb)
    replace HOr29 := Lib.hid (HOr29.out.later hb)
    replace HA0 := Lib.hid (HA0.out.later hb)
    replace HM0 := Lib.hid (HM0.out.later hb)
    have HOr31 := Lib.hid hoI
    have HUr31 := Lib.hid hoI.block
    clear hoI
    have HOr32 := Lib.hid hoS
    have HUr32 := Lib.hid hoS.block
    clear hoS
    clear hb
    go_wp2_with fail
    obtain ⟨w33, hw33⟩ : ∃ W, W = w30.alloc (.cells #[.int .i64 T3, .int .i64 T4, .int .i64 T5, .int .i64 T6, .slice yr31 T1.length qr31, .slice yr32 T2.length qr32] 28) := ⟨_, rfl⟩
    rw [← hw33]
    obtain ⟨pw33, epw33⟩ : ∃ p, p = w30.heap.size := ⟨_, rfl⟩
    rw [← epw33]
    have Epw33 := Lib.hid epw33
    have epw33' := Epw33.out
    clear epw33
    have xpw33_0 : w33.cell? ⟨pw33, 0, none⟩ = some (.int .i64 T3) := by rw [hw33, epw33', World.cell?_alloc_at _ _ _ _ rfl]; rfl
    have xpw33_1 : w33.cell? ⟨pw33, 1, none⟩ = some (.int .i64 T4) := by rw [hw33, epw33', World.cell?_alloc_at _ _ _ _ rfl]; rfl
    have xpw33_2 : w33.cell? ⟨pw33, 2, none⟩ = some (.int .i64 T5) := by rw [hw33, epw33', World.cell?_alloc_at _ _ _ _ rfl]; rfl
    have xpw33_3 : w33.cell? ⟨pw33, 3, none⟩ = some (.int .i64 T6) := by rw [hw33, epw33', World.cell?_alloc_at _ _ _ _ rfl]; rfl
    have xpw33_4 : w33.cell? ⟨pw33, 4, none⟩ = some (.slice yr31 T1.length qr31) := by rw [hw33, epw33', World.cell?_alloc_at _ _ _ _ rfl]; rfl
    have xpw33_5 : w33.cell? ⟨pw33, 5, none⟩ = some (.slice yr32 T2.length qr32) := by rw [hw33, epw33', World.cell?_alloc_at _ _ _ _ rfl]; rfl
    have hpw33 : pw33 < w33.heap.size := by rw [hw33, epw33', World.size_alloc]; exact Nat.lt_succ_self _
    have hb : Below w30.heap.size w30 w33 := by rw [hw33]; exact (Below.refl _ _).alloc (Nat.le_refl _) _
    have Sw33 := Lib.hid (show w33.heap.size = w30.heap.size + 1 by rw [hw33, World.size_alloc])
    replace xpw1_0 := (hb.cell (p := ⟨pw1, 0, none⟩) hpw1).trans xpw1_0
    replace xpw1_1 := (hb.cell (p := ⟨pw1, 1, none⟩) hpw1).trans xpw1_1
    replace xpw1_2 := (hb.cell (p := ⟨pw1, 2, none⟩) hpw1).trans xpw1_2
    replace xpw1_3 := (hb.cell (p := ⟨pw1, 3, none⟩) hpw1).trans xpw1_3
    replace xpw1_4 := (hb.cell (p := ⟨pw1, 4, none⟩) hpw1).trans xpw1_4
    replace xpw1_5 := (hb.cell (p := ⟨pw1, 5, none⟩) hpw1).trans xpw1_5
    replace hpw1 := Nat.lt_of_lt_of_le hpw1 hb.size
    replace xpw10_0 := (hb.cell (p := ⟨pw10, 0, none⟩) hpw10).trans xpw10_0
    replace xpw10_1 := (hb.cell (p := ⟨pw10, 1, none⟩) hpw10).trans xpw10_1
    replace xpw10_2 := (hb.cell (p := ⟨pw10, 2, none⟩) hpw10).trans xpw10_2
    replace xpw10_3 := (hb.cell (p := ⟨pw10, 3, none⟩) hpw10).trans xpw10_3
    replace xpw10_4 := (hb.cell (p := ⟨pw10, 4, none⟩) hpw10).trans xpw10_4
    replace xpw10_5 := (hb.cell (p := ⟨pw10, 5, none⟩) hpw10).trans xpw10_5
    replace hpw10 := Nat.lt_of_lt_of_le hpw10 hb.size
    replace xpw15_0 := (hb.cell (p := ⟨pw15, 0, none⟩) hpw15).trans xpw15_0
    replace xpw15_1 := (hb.cell (p := ⟨pw15, 1, none⟩) hpw15).trans xpw15_1
    replace xpw15_2 := (hb.cell (p := ⟨pw15, 2, none⟩) hpw15).trans xpw15_2
    replace xpw15_3 := (hb.cell (p := ⟨pw15, 3, none⟩) hpw15).trans xpw15_3
    replace xpw15_4 := (hb.cell (p := ⟨pw15, 4, none⟩) hpw15).trans xpw15_4
    replace xpw15_5 := (hb.cell (p := ⟨pw15, 5, none⟩) hpw15).trans xpw15_5
    replace hpw15 := Nat.lt_of_lt_of_le hpw15 hb.size
    replace xpw19_0 := (hb.cell (p := ⟨pw19, 0, none⟩) hpw19).trans xpw19_0
    replace xpw19_1 := (hb.cell (p := ⟨pw19, 1, none⟩) hpw19).trans xpw19_1
    replace xpw19_2 := (hb.cell (p := ⟨pw19, 2, none⟩) hpw19).trans xpw19_2
    replace xpw19_3 := (hb.cell (p := ⟨pw19, 3, none⟩) hpw19).trans xpw19_3
    replace xpw19_4 := (hb.cell (p := ⟨pw19, 4, none⟩) hpw19).trans xpw19_4
    replace xpw19_5 := (hb.cell (p := ⟨pw19, 5, none⟩) hpw19).trans xpw19_5
    replace hpw19 := Nat.lt_of_lt_of_le hpw19 hb.size
    replace HB := Lib.hid (HB.out.trans (hb.mono hz))
    replace hz := Nat.le_trans hz hb.size
    have HZw33 := Lib.hid hb.size
    replace HOr5 := Lib.hid (HOr5.out.later hb)
    replace HOr6 := Lib.hid (HOr6.out.later hb)
    replace HOr8 := Lib.hid (HOr8.out.later hb)
    replace HOr9 := Lib.hid (HOr9.out.later hb)
    replace HOr13 := Lib.hid (HOr13.out.later hb)
    replace HOr14 := Lib.hid (HOr14.out.later hb)
    replace HOr17 := Lib.hid (HOr17.out.later hb)
    replace HOr18 := Lib.hid (HOr18.out.later hb)
    replace HOr28 := Lib.hid (HOr28.out.later hb)
    replace HOr29 := Lib.hid (HOr29.out.later hb)
    replace HOr31 := Lib.hid (HOr31.out.later hb)
    replace HOr32 := Lib.hid (HOr32.out.later hb)
    replace HA0 := Lib.hid (HA0.out.later hb)
    replace HM0 := Lib.hid (HM0.out.later hb)
    clear hb
    clear epw33' hw33
    refine (kit.eqAcceptorO T3 T4 T5 T6 _ _ (.slice yr31 T1.length qr31) (.slice yr32 T2.length qr32) T1 T2 T3 T4 T5 T6 _ _ (.slice yr8 T1.length qr8) (.slice yr9 T2.length qr9) T1 T2 w33 (by omega) (by omega) HOr31.out HOr32.out (by omega) (by omega) HOr8.out HOr9.out).mono ?_
    rintro e w34 ⟨he, hb⟩
    rw [decide_eq_true ⟨rfl, rfl, rfl, rfl, rfl, rfl⟩] at he
    subst he
    replace xpw1_0 := (hb.cell (p := ⟨pw1, 0, none⟩) hpw1).trans xpw1_0
    replace xpw1_1 := (hb.cell (p := ⟨pw1, 1, none⟩) hpw1).trans xpw1_1
    replace xpw1_2 := (hb.cell (p := ⟨pw1, 2, none⟩) hpw1).trans xpw1_2
    replace xpw1_3 := (hb.cell (p := ⟨pw1, 3, none⟩) hpw1).trans xpw1_3
    replace xpw1_4 := (hb.cell (p := ⟨pw1, 4, none⟩) hpw1).trans xpw1_4
    replace xpw1_5 := (hb.cell (p := ⟨pw1, 5, none⟩) hpw1).trans xpw1_5
    replace hpw1 := Nat.lt_of_lt_of_le hpw1 hb.size
    replace xpw10_0 := (hb.cell (p := ⟨pw10, 0, none⟩) hpw10).trans xpw10_0
    replace xpw10_1 := (hb.cell (p := ⟨pw10, 1, none⟩) hpw10).trans xpw10_1
    replace xpw10_2 := (hb.cell (p := ⟨pw10, 2, none⟩) hpw10).trans xpw10_2
    replace xpw10_3 := (hb.cell (p := ⟨pw10, 3, none⟩) hpw10).trans xpw10_3
    replace xpw10_4 := (hb.cell (p := ⟨pw10, 4, none⟩) hpw10).trans xpw10_4
    replace xpw10_5 := (hb.cell (p := ⟨pw10, 5, none⟩) hpw10).trans xpw10_5
    replace hpw10 := Nat.lt_of_lt_of_le hpw10 hb.size
    replace xpw15_0 := (hb.cell (p := ⟨pw15, 0, none⟩) hpw15).trans xpw15_0
    replace xpw15_1 := (hb.cell (p := ⟨pw15, 1, none⟩) hpw15).trans xpw15_1
    replace xpw15_2 := (hb.cell (p := ⟨pw15, 2, none⟩) hpw15).trans xpw15_2
    replace xpw15_3 := (hb.cell (p := ⟨pw15, 3, none⟩) hpw15).trans xpw15_3
    replace xpw15_4 := (hb.cell (p := ⟨pw15, 4, none⟩) hpw15).trans xpw15_4
    replace xpw15_5 := (hb.cell (p := ⟨pw15, 5, none⟩) hpw15).trans xpw15_5
    replace hpw15 := Nat.lt_of_lt_of_le hpw15 hb.size
    replace xpw19_0 := (hb.cell (p := ⟨pw19, 0, none⟩) hpw19).trans xpw19_0
    replace xpw19_1 := (hb.cell (p := ⟨pw19, 1, none⟩) hpw19).trans xpw19_1
    replace xpw19_2 := (hb.cell (p := ⟨pw19, 2, none⟩) hpw19).trans xpw19_2
    replace xpw19_3 := (hb.cell (p := ⟨pw19, 3, none⟩) hpw19).trans xpw19_3
    replace xpw19_4 := (hb.cell (p := ⟨pw19, 4, none⟩) hpw19).trans xpw19_4
    replace xpw19_5 := (hb.cell (p := ⟨pw19, 5, none⟩) hpw19).trans xpw19_5
    replace hpw19 := Nat.lt_of_lt_of_le hpw19 hb.size
    replace xpw33_0 := (hb.cell (p := ⟨pw33, 0, none⟩) hpw33).trans xpw33_0
    replace xpw33_1 := (hb.cell (p := ⟨pw33, 1, none⟩) hpw33).trans xpw33_1
    replace xpw33_2 := (hb.cell (p := ⟨pw33, 2, none⟩) hpw33).trans xpw33_2
    replace xpw33_3 := (hb.cell (p := ⟨pw33, 3, none⟩) hpw33).trans xpw33_3
    replace xpw33_4 := (hb.cell (p := ⟨pw33, 4, none⟩) hpw33).trans xpw33_4
    replace xpw33_5 := (hb.cell (p := ⟨pw33, 5, none⟩) hpw33).trans xpw33_5
    replace hpw33 := Nat.lt_of_lt_of_le hpw33 hb.size
    replace HB := Lib.hid (HB.out.trans (hb.mono hz))
    replace hz := Nat.le_trans hz hb.size
    have HZw34 := Lib.hid hb.size
    replace HOr5 := Lib.hid (HOr5.out.later hb)
    replace HOr6 := Lib.hid (HOr6.out.later hb)
    replace HOr8 := Lib.hid (HOr8.out.later hb)
    replace HOr9 := Lib.hid (HOr9.out.later hb)
    replace HOr13 := Lib.hid (HOr13.out.later hb)
    replace HOr14 := Lib.hid (HOr14.out.later hb)
    replace HOr17 := Lib.hid (HOr17.out.later hb)
    replace HOr18 := Lib.hid (HOr18.out.later hb)
    replace HOr28 := Lib.hid (HOr28.out.later hb)
    replace HOr29 := Lib.hid (HOr29.out.later hb)
    replace HOr31 := Lib.hid (HOr31.out.later hb)
    replace HOr32 := Lib.hid (HOr32.out.later hb)
    replace HA0 := Lib.hid (HA0.out.later hb)
    replace HM0 := Lib.hid (HM0.out.later hb)
    clear hb
    go_wp2_with fail
    refine (kit.heldAcceptor T3 T4 T5 T6 _ _ (.slice yr17 T1.length qr17) (.slice yr18 T2.length qr18) (T1.length) (T2.length) w34 (by omega) (by omega) HOr17.out HOr18.out 1 rfl).mono ?_
    rintro e w35 ⟨rfl, hb⟩
    replace xpw1_0 := (hb.cell (p := ⟨pw1, 0, none⟩) hpw1).trans xpw1_0
    replace xpw1_1 := (hb.cell (p := ⟨pw1, 1, none⟩) hpw1).trans xpw1_1
    replace xpw1_2 := (hb.cell (p := ⟨pw1, 2, none⟩) hpw1).trans xpw1_2
    replace xpw1_3 := (hb.cell (p := ⟨pw1, 3, none⟩) hpw1).trans xpw1_3
    replace xpw1_4 := (hb.cell (p := ⟨pw1, 4, none⟩) hpw1).trans xpw1_4
    replace xpw1_5 := (hb.cell (p := ⟨pw1, 5, none⟩) hpw1).trans xpw1_5
    replace hpw1 := Nat.lt_of_lt_of_le hpw1 hb.size
    replace xpw10_0 := (hb.cell (p := ⟨pw10, 0, none⟩) hpw10).trans xpw10_0
    replace xpw10_1 := (hb.cell (p := ⟨pw10, 1, none⟩) hpw10).trans xpw10_1
    replace xpw10_2 := (hb.cell (p := ⟨pw10, 2, none⟩) hpw10).trans xpw10_2
    replace xpw10_3 := (hb.cell (p := ⟨pw10, 3, none⟩) hpw10).trans xpw10_3
    replace xpw10_4 := (hb.cell (p := ⟨pw10, 4, none⟩) hpw10).trans xpw10_4
    replace xpw10_5 := (hb.cell (p := ⟨pw10, 5, none⟩) hpw10).trans xpw10_5
    replace hpw10 := Nat.lt_of_lt_of_le hpw10 hb.size
    replace xpw15_0 := (hb.cell (p := ⟨pw15, 0, none⟩) hpw15).trans xpw15_0
    replace xpw15_1 := (hb.cell (p := ⟨pw15, 1, none⟩) hpw15).trans xpw15_1
    replace xpw15_2 := (hb.cell (p := ⟨pw15, 2, none⟩) hpw15).trans xpw15_2
    replace xpw15_3 := (hb.cell (p := ⟨pw15, 3, none⟩) hpw15).trans xpw15_3
    replace xpw15_4 := (hb.cell (p := ⟨pw15, 4, none⟩) hpw15).trans xpw15_4
    replace xpw15_5 := (hb.cell (p := ⟨pw15, 5, none⟩) hpw15).trans xpw15_5
    replace hpw15 := Nat.lt_of_lt_of_le hpw15 hb.size
    replace xpw19_0 := (hb.cell (p := ⟨pw19, 0, none⟩) hpw19).trans xpw19_0
    replace xpw19_1 := (hb.cell (p := ⟨pw19, 1, none⟩) hpw19).trans xpw19_1
    replace xpw19_2 := (hb.cell (p := ⟨pw19, 2, none⟩) hpw19).trans xpw19_2
    replace xpw19_3 := (hb.cell (p := ⟨pw19, 3, none⟩) hpw19).trans xpw19_3
    replace xpw19_4 := (hb.cell (p := ⟨pw19, 4, none⟩) hpw19).trans xpw19_4
    replace xpw19_5 := (hb.cell (p := ⟨pw19, 5, none⟩) hpw19).trans xpw19_5
    replace hpw19 := Nat.lt_of_lt_of_le hpw19 hb.size
    replace xpw33_0 := (hb.cell (p := ⟨pw33, 0, none⟩) hpw33).trans xpw33_0
    replace xpw33_1 := (hb.cell (p := ⟨pw33, 1, none⟩) hpw33).trans xpw33_1
    replace xpw33_2 := (hb.cell (p := ⟨pw33, 2, none⟩) hpw33).trans xpw33_2
    replace xpw33_3 := (hb.cell (p := ⟨pw33, 3, none⟩) hpw33).trans xpw33_3
    replace xpw33_4 := (hb.cell (p := ⟨pw33, 4, none⟩) hpw33).trans xpw33_4
    replace xpw33_5 := (hb.cell (p := ⟨pw33, 5, none⟩) hpw33).trans xpw33_5
    replace hpw33 := Nat.lt_of_lt_of_le hpw33 hb.size
    replace HB := Lib.hid (HB.out.trans (hb.mono hz))
    replace hz := Nat.le_trans hz hb.size
    have HZw35 := Lib.hid hb.size
    replace HOr5 := Lib.hid (HOr5.out.later hb)
    replace HOr6 := Lib.hid (HOr6.out.later hb)
    replace HOr8 := Lib.hid (HOr8.out.later hb)
    replace HOr9 := Lib.hid (HOr9.out.later hb)
    replace HOr13 := Lib.hid (HOr13.out.later hb)
    replace HOr14 := Lib.hid (HOr14.out.later hb)
    replace HOr17 := Lib.hid (HOr17.out.later hb)
    replace HOr18 := Lib.hid (HOr18.out.later hb)
    replace HOr28 := Lib.hid (HOr28.out.later hb)
    replace HOr29 := Lib.hid (HOr29.out.later hb)
    replace HOr31 := Lib.hid (HOr31.out.later hb)
    replace HOr32 := Lib.hid (HOr32.out.later hb)
    replace HA0 := Lib.hid (HA0.out.later hb)
    replace HM0 := Lib.hid (HM0.out.later hb)
    clear hb
    go_wp2_with fail
    go_ret
    exact ⟨rfl, HB.out⟩
set_option maxRecDepth 100000 in
theorem lifted (os : Os) (started : os.Started) (H : Type) (enc : TypeId × Value → H) :
    ReturnsInHanded {} Try.checked os 5 .any (Rows.fnExactPrepareSpec.pre6 enc Try.prog Try.f5 Rows.fnExactPrepareRow.domain false) (Rows.fnExactPrepareSpec.post enc Try.prog Try.f5 false true false false) := by
  refine returnsInHanded_of_change (C := Try.checked) kit.own started (by kernel_rfl) Try.func5
    (ChangeSpec.witness6 (enc := enc) (C := Try.checked) false ⟨#[], #[.agg #[.int .i64 0, .int .i64 0, .int .i64 0, .int .i64 0, .slice none 0 0, .slice none 0 0], .int .i64 0], []⟩ 8 (by kernel_rfl) (by kernel_rfl) (by kernel_rfl) (by kernel_rfl)) ?_
  intro W base args ds gs before hval0 hW hcnd _
  have hval : ∀ (j : Nat) t v, Try.f5.params[j]? = some t → args[j]? = some v → Value.okWide Try.prog W .any base t v := hval0
  have hW' := hW
  obtain ⟨p, q, hA0, hV, rfl, hfz, hnd⟩ := hW
  have hA : DataW.TrodAll enc Try.prog W 0 (fun _ => true) true Try.f5.params.toList args.toList ds p := hA0
  rw [Try.params5] at hA hval
  obtain ⟨v0, vs0, d0, ds0, p0, q0, hargs, rfl, rfl, h0, r0⟩ := trodAll_cons hA
  obtain ⟨v1, vs1, d1, ds1, p1, q1, rfl, rfl, rfl, h1, r1⟩ := trodAll_cons r0
  obtain ⟨rfl, rfl, rfl⟩ := trodAll_nil r1
  obtain rfl : args = #[v0, v1] := by cases args; simp_all
  obtain ⟨rfl, rfl⟩ := trodVars_none hV
  have k0 := h0
  have lt0 : ∀ x ∈ p0, x.block < W.heap.size := by obtain ⟨m, hm⟩ := k0; exact DataW.trod_lt m _ _ _ hm
  obtain ⟨x0, y0, s0, t0, a0, c0, L0, b0, e0, M0, rfl, wa0, wb0, wl0, wm0⟩ := kit.open_acceptor (hval 0 41 v0 rfl rfl) h0 lt0
  obtain ⟨a1, rfl, rfl, rfl, w1⟩ := open_int Try.underlying3 (hval 1 3 v1 rfl rfl) h1
  clear hA0 hval0
  refine (walk x0 y0 s0 t0 a0 c0 L0 b0 e0 M0 a1 W wa0 wb0 wl0 wm0 w1).mono fun e W' ⟨he, bel⟩ => ?_
  subst he
  exact ⟨_, rfl, _, _, _, [], _, [], hW', trodAll_mk1 (shut_bool Try.underlying4 _), (trodAll_cons_mk (Below.trod kit.laidOut (by kernel_rfl) (of_decide_eq_true (by kernel_rfl)) k0 bel lt0) (trodAll_cons_mk (shut_int Try.underlying3 w1) trodAll_mk0)), rfl, bel.frame _, fun h => by cases h⟩

theorem proved : Rows.FnExactPrepareSaid :=
  OpenClaim.holds_of_wide 5 Try.f5 rfl rfl rfl rfl rfl rfl rfl ⟨rfl, rfl, rfl, rfl, rfl⟩ rfl rfl rfl rfl rfl (by kernel_rfl) Try.func5 (by kernel_rfl)
    (of_decide_eq_true (by kernel_rfl)) (by unfold Func.isWrapper; first | (rw [if_pos (by decide +kernel)]; kernel_rfl) | (rw [if_neg (by decide +kernel)]; exact ⟨rfl, rfl⟩))
    (fun os started H enc _ => lifted os started H enc)
end Go.Proofs.Ytgjebjoaemeeoaa.fnExactPrepare
