/-
  For every Acceptor and Config (the law passes over those with more than 2^20 elements) and every int, impl's Accept returns the same Acceptor and bool as the specification's, in memory of its own, and leaves its arguments as they were: the law returns true and changes nothing that was there. No condition.
-/
import Derived.Test.YtgjebjoaemeeoaaS10Impl
import Derived.Test.YtgjebjoaemeeoaaS10Spec
import Derived.Test.YtgjebjoaemeeoaaAcc
import Derived.Test.YtgjebjoaemeeoaaA2
import Derived.Test.YtgjebjoaemeeoaaMarkK
import Derived.Deep.RegionWith
import Derived.Deep.DeepCutAuto
namespace Go.Proofs.Ytgjebjoaemeeoaa.fnExactAccept
open Go.ChangeShapes Go.WideShapes Go.ChangeAt Go.RowKit
open Go.ChangeMaps (open_string shut_string)
set_option linter.unusedVariables false
set_option linter.unusedSimpArgs false

set_option maxRecDepth 100000 in
set_option maxHeartbeats 16000000 in
theorem walk (x0 y0 s0 t0 : Int) (a0 : Option Addr) (c0 : Nat) (L0 : List Int) (b0 : Option Addr) (d0 : Nat) (M0 : List Int) (a1 : Int) (x2 y2 : Int) (a2 : Option Addr) (c2 : Nat) (L2 : List Int) (b2 : Option Addr) (d2 : Nat) (M2 : List Int) (w : World) (wa0 : kit.At w a0 L0) (wb0 : kit.At w b0 M0) (wl0 : L0.length ≤ maxLen) (wm0 : M0.length ≤ maxLen) (w1 : (Lit.int .i64 a1).wf = true) (wa2 : kit.At w a2 L2) (wb2 : kit.At w b2 M2) (wl2 : L2.length ≤ maxLen) (wm2 : M2.length ≤ maxLen) :
    Calls Try.prog 6 #[.agg #[.int .i64 x0, .int .i64 y0, .int .i64 s0, .int .i64 t0, .slice a0 L0.length c0, .slice b0 M0.length d0], .int .i64 a1, .agg #[.int .i64 x2, .int .i64 y2, .slice a2 L2.length c2, .slice b2 M2.length d2]] w fun e w' => e = .returned (.bool true) ∧ Below w.heap.size w w' := by
  unfold maxLen at wl0 wm0
  have HA0' := Lib.hid (kit.at_low wa0)
  have HM0' := Lib.hid (kit.at_low wb0)
  have HA0 := Lib.hid wa0
  have HM0 := Lib.hid wb0
  clear wa0 wb0
  unfold maxLen at wl2 wm2
  have HA2' := Lib.hid (kit.at_low wa2)
  have HM2' := Lib.hid (kit.at_low wb2)
  have HA2 := Lib.hid wa2
  have HM2 := Lib.hid wb2
  clear wa2 wb2
  have HB := Lib.hid (Below.refl w.heap.size w)
  have hz : w.heap.size ≤ w.heap.size := Nat.le_refl _
  go_enter Try.func6, Try.ntmps6
  go_wp2_with fail
  obtain ⟨w1, hw1⟩ : ∃ W, W = w.alloc (.cells #[.int .i64 x0, .int .i64 y0, .int .i64 s0, .int .i64 t0, .slice a0 L0.length c0, .slice b0 M0.length d0] 41) := ⟨_, rfl⟩
  rw [← hw1]
  obtain ⟨pw1, epw1⟩ : ∃ p, p = w.heap.size := ⟨_, rfl⟩
  rw [← epw1]
  have Epw1 := Lib.hid epw1
  have epw1' := Epw1.out
  clear epw1
  have xpw1_0 : w1.cell? ⟨pw1, 0, none⟩ = some (.int .i64 x0) := by rw [hw1, epw1', World.cell?_alloc_at _ _ _ _ rfl]; rfl
  have xpw1_1 : w1.cell? ⟨pw1, 1, none⟩ = some (.int .i64 y0) := by rw [hw1, epw1', World.cell?_alloc_at _ _ _ _ rfl]; rfl
  have xpw1_2 : w1.cell? ⟨pw1, 2, none⟩ = some (.int .i64 s0) := by rw [hw1, epw1', World.cell?_alloc_at _ _ _ _ rfl]; rfl
  have xpw1_3 : w1.cell? ⟨pw1, 3, none⟩ = some (.int .i64 t0) := by rw [hw1, epw1', World.cell?_alloc_at _ _ _ _ rfl]; rfl
  have xpw1_4 : w1.cell? ⟨pw1, 4, none⟩ = some (.slice a0 L0.length c0) := by rw [hw1, epw1', World.cell?_alloc_at _ _ _ _ rfl]; rfl
  have xpw1_5 : w1.cell? ⟨pw1, 5, none⟩ = some (.slice b0 M0.length d0) := by rw [hw1, epw1', World.cell?_alloc_at _ _ _ _ rfl]; rfl
  have hpw1 : pw1 < w1.heap.size := by rw [hw1, epw1', World.size_alloc]; exact Nat.lt_succ_self _
  have hb : Below w.heap.size w w1 := by rw [hw1]; exact (Below.refl _ _).alloc (Nat.le_refl _) _
  have Sw1 := Lib.hid (show w1.heap.size = w.heap.size + 1 by rw [hw1, World.size_alloc])
  replace HB := Lib.hid (HB.out.trans (hb.mono hz))
  replace hz := Nat.le_trans hz hb.size
  have HZw1 := Lib.hid hb.size
  replace HA0 := Lib.hid (HA0.out.later hb)
  replace HM0 := Lib.hid (HM0.out.later hb)
  replace HA2 := Lib.hid (HA2.out.later hb)
  replace HM2 := Lib.hid (HM2.out.later hb)
  clear hb
  obtain ⟨w2, hw2⟩ : ∃ W, W = w1.alloc (.cells #[.int .i64 x2, .int .i64 y2, .slice a2 L2.length c2, .slice b2 M2.length d2] 39) := ⟨_, rfl⟩
  rw [← hw2]
  obtain ⟨pw2, epw2⟩ : ∃ p, p = pw1 + 1 := ⟨_, rfl⟩
  rw [← epw2]
  have Epw2 := Lib.hid (show pw2 = w1.heap.size by rw [epw2, hw1, World.size_alloc, epw1'])
  have epw2' := Epw2.out
  clear epw2
  have xpw2_0 : w2.cell? ⟨pw2, 0, none⟩ = some (.int .i64 x2) := by rw [hw2, epw2', World.cell?_alloc_at _ _ _ _ rfl]; rfl
  have xpw2_1 : w2.cell? ⟨pw2, 1, none⟩ = some (.int .i64 y2) := by rw [hw2, epw2', World.cell?_alloc_at _ _ _ _ rfl]; rfl
  have xpw2_2 : w2.cell? ⟨pw2, 2, none⟩ = some (.slice a2 L2.length c2) := by rw [hw2, epw2', World.cell?_alloc_at _ _ _ _ rfl]; rfl
  have xpw2_3 : w2.cell? ⟨pw2, 3, none⟩ = some (.slice b2 M2.length d2) := by rw [hw2, epw2', World.cell?_alloc_at _ _ _ _ rfl]; rfl
  have hpw2 : pw2 < w2.heap.size := by rw [hw2, epw2', World.size_alloc]; exact Nat.lt_succ_self _
  have hb : Below w1.heap.size w1 w2 := by rw [hw2]; exact (Below.refl _ _).alloc (Nat.le_refl _) _
  have Sw2 := Lib.hid (show w2.heap.size = w1.heap.size + 1 by rw [hw2, World.size_alloc])
  replace xpw1_0 := (hb.cell (p := ⟨pw1, 0, none⟩) hpw1).trans xpw1_0
  replace xpw1_1 := (hb.cell (p := ⟨pw1, 1, none⟩) hpw1).trans xpw1_1
  replace xpw1_2 := (hb.cell (p := ⟨pw1, 2, none⟩) hpw1).trans xpw1_2
  replace xpw1_3 := (hb.cell (p := ⟨pw1, 3, none⟩) hpw1).trans xpw1_3
  replace xpw1_4 := (hb.cell (p := ⟨pw1, 4, none⟩) hpw1).trans xpw1_4
  replace xpw1_5 := (hb.cell (p := ⟨pw1, 5, none⟩) hpw1).trans xpw1_5
  replace hpw1 := Nat.lt_of_lt_of_le hpw1 hb.size
  replace HB := Lib.hid (HB.out.trans (hb.mono hz))
  replace hz := Nat.le_trans hz hb.size
  have HZw2 := Lib.hid hb.size
  replace HA0 := Lib.hid (HA0.out.later hb)
  replace HM0 := Lib.hid (HM0.out.later hb)
  replace HA2 := Lib.hid (HA2.out.later hb)
  replace HM2 := Lib.hid (HM2.out.later hb)
  clear hb
  clear epw1' hw1
  clear epw2' hw2
  refine (kit.szAcceptor x0 y0 s0 t0 a0 L0.length c0 b0 M0.length d0 (1048576) w2 (by omega) (by omega) (by omega) (by omega)).mono ?_
  rintro e w3 ⟨rfl, hb⟩
  replace xpw1_0 := (hb.cell (p := ⟨pw1, 0, none⟩) hpw1).trans xpw1_0
  replace xpw1_1 := (hb.cell (p := ⟨pw1, 1, none⟩) hpw1).trans xpw1_1
  replace xpw1_2 := (hb.cell (p := ⟨pw1, 2, none⟩) hpw1).trans xpw1_2
  replace xpw1_3 := (hb.cell (p := ⟨pw1, 3, none⟩) hpw1).trans xpw1_3
  replace xpw1_4 := (hb.cell (p := ⟨pw1, 4, none⟩) hpw1).trans xpw1_4
  replace xpw1_5 := (hb.cell (p := ⟨pw1, 5, none⟩) hpw1).trans xpw1_5
  replace hpw1 := Nat.lt_of_lt_of_le hpw1 hb.size
  replace xpw2_0 := (hb.cell (p := ⟨pw2, 0, none⟩) hpw2).trans xpw2_0
  replace xpw2_1 := (hb.cell (p := ⟨pw2, 1, none⟩) hpw2).trans xpw2_1
  replace xpw2_2 := (hb.cell (p := ⟨pw2, 2, none⟩) hpw2).trans xpw2_2
  replace xpw2_3 := (hb.cell (p := ⟨pw2, 3, none⟩) hpw2).trans xpw2_3
  replace hpw2 := Nat.lt_of_lt_of_le hpw2 hb.size
  replace HB := Lib.hid (HB.out.trans (hb.mono hz))
  replace hz := Nat.le_trans hz hb.size
  have HZw3 := Lib.hid hb.size
  replace HA0 := Lib.hid (HA0.out.later hb)
  replace HM0 := Lib.hid (HM0.out.later hb)
  replace HA2 := Lib.hid (HA2.out.later hb)
  replace HM2 := Lib.hid (HM2.out.later hb)
  clear hb
  by_cases hs1 : ¬ (L0.length : Int) + (M0.length : Int) ≤ 1048576
  · rw [show kit.left (1048576) L0.length M0.length = -1 from if_neg hs1]
    go_wp2_with fail
    go_ret
    exact ⟨rfl, HB.out⟩
  replace hs1 := Decidable.not_not.1 hs1
  rw [show kit.left (1048576) L0.length M0.length = 1048576 - (L0.length : Int) - (M0.length : Int) from if_pos hs1]
  go_wp2_with fail
  refine (kit.szConfig x2 y2 a2 L2.length c2 b2 M2.length d2 (1048576 - (L0.length : Int) - (M0.length : Int)) w3 (by omega) (by omega) (by omega) (by omega)).mono ?_
  rintro e w4 ⟨rfl, hb⟩
  replace xpw1_0 := (hb.cell (p := ⟨pw1, 0, none⟩) hpw1).trans xpw1_0
  replace xpw1_1 := (hb.cell (p := ⟨pw1, 1, none⟩) hpw1).trans xpw1_1
  replace xpw1_2 := (hb.cell (p := ⟨pw1, 2, none⟩) hpw1).trans xpw1_2
  replace xpw1_3 := (hb.cell (p := ⟨pw1, 3, none⟩) hpw1).trans xpw1_3
  replace xpw1_4 := (hb.cell (p := ⟨pw1, 4, none⟩) hpw1).trans xpw1_4
  replace xpw1_5 := (hb.cell (p := ⟨pw1, 5, none⟩) hpw1).trans xpw1_5
  replace hpw1 := Nat.lt_of_lt_of_le hpw1 hb.size
  replace xpw2_0 := (hb.cell (p := ⟨pw2, 0, none⟩) hpw2).trans xpw2_0
  replace xpw2_1 := (hb.cell (p := ⟨pw2, 1, none⟩) hpw2).trans xpw2_1
  replace xpw2_2 := (hb.cell (p := ⟨pw2, 2, none⟩) hpw2).trans xpw2_2
  replace xpw2_3 := (hb.cell (p := ⟨pw2, 3, none⟩) hpw2).trans xpw2_3
  replace hpw2 := Nat.lt_of_lt_of_le hpw2 hb.size
  replace HB := Lib.hid (HB.out.trans (hb.mono hz))
  replace hz := Nat.le_trans hz hb.size
  have HZw4 := Lib.hid hb.size
  replace HA0 := Lib.hid (HA0.out.later hb)
  replace HM0 := Lib.hid (HM0.out.later hb)
  replace HA2 := Lib.hid (HA2.out.later hb)
  replace HM2 := Lib.hid (HM2.out.later hb)
  clear hb
  by_cases hs2 : ¬ (L2.length : Int) + (M2.length : Int) ≤ 1048576 - (L0.length : Int) - (M0.length : Int)
  · rw [show kit.left (1048576 - (L0.length : Int) - (M0.length : Int)) L2.length M2.length = -1 from if_neg hs2]
    go_wp2_with fail
    go_ret
    exact ⟨rfl, HB.out⟩
  replace hs2 := Decidable.not_not.1 hs2
  rw [show kit.left (1048576 - (L0.length : Int) - (M0.length : Int)) L2.length M2.length = 1048576 - (L0.length : Int) - (M0.length : Int) - (L2.length : Int) - (M2.length : Int) from if_pos hs2]
  go_wp2_with fail
  obtain ⟨T1, hT1⟩ : ∃ T, kit.acpL1 x0 y0 s0 t0 L0 M0 a1 x2 y2 L2 M2 = T := ⟨_, rfl⟩
  have lT1 : T1.length ≤ 4194304 := by rw [← hT1]; exact kit.acpL1_len _ _ _ _ _ _ _ _ _ _ _ (by omega) (by omega)
  have HT1 := Lib.hid hT1
  clear hT1
  obtain ⟨T2, hT2⟩ : ∃ T, kit.acpL2 x0 y0 s0 t0 L0 M0 a1 x2 y2 L2 M2 = T := ⟨_, rfl⟩
  have lT2 : T2.length ≤ 4194304 := by rw [← hT2]; exact kit.acpL2_len _ _ _ _ _ _ _ _ _ _ _ (by omega) (by omega)
  have HT2 := Lib.hid hT2
  clear hT2
  obtain ⟨T3, hT3⟩ : ∃ T, kit.acpX x0 y0 s0 t0 L0 M0 a1 x2 y2 L2 M2 = T := ⟨_, rfl⟩
  have HT3 := Lib.hid hT3
  clear hT3
  obtain ⟨T4, hT4⟩ : ∃ T, kit.acpY x0 y0 s0 t0 L0 M0 a1 x2 y2 L2 M2 = T := ⟨_, rfl⟩
  have HT4 := Lib.hid hT4
  clear hT4
  obtain ⟨T5, hT5⟩ : ∃ T, kit.acpS x0 y0 s0 t0 L0 M0 a1 x2 y2 L2 M2 = T := ⟨_, rfl⟩
  have HT5 := Lib.hid hT5
  clear hT5
  obtain ⟨T6, hT6⟩ : ∃ T, kit.acpT x0 y0 s0 t0 L0 M0 a1 x2 y2 L2 M2 = T := ⟨_, rfl⟩
  have HT6 := Lib.hid hT6
  clear hT6
  obtain ⟨T7, hT7⟩ : ∃ T, kit.acpOk x0 y0 s0 t0 L0 M0 a1 x2 y2 L2 M2 = T := ⟨_, rfl⟩
  have HT7 := Lib.hid hT7
  clear hT7
  go_upto_region 8 with (fail)
  go_cut [8, 9] (fun b0 b1 wx => ∃ (p0 : Nat) (xI xS : Value), b0 = .pointer (some ⟨p0, 0, none⟩) ∧ b1 = .bool T7 ∧ kit.BoxC wx p0 28 #[.int .i64 T3, .int .i64 T4, .int .i64 T5, .int .i64 T6, xI, xS] ∧ kit.OwnI (w4.heap.size) wx xI T1 ∧ kit.OwnI (w4.heap.size) wx xS T2 ∧ w4.heap.size ≤ p0 ∧ Below (w4.heap.size) w4 wx)
  case first =>
    refine kit.region_inv (m := 10) [30, 31, 32, 33, 34, 35, 29, 36, 37, 8] [8] (kit.Fs [kit.isV (.agg #[.int .i64 x0, .int .i64 y0, .int .i64 s0, .int .i64 t0, .slice a0 L0.length c0, .slice b0 M0.length d0]), kit.isA2 (w4.heap.size) false (fun p q => .agg #[.int .i64 x0, .int .i64 y0, .int .i64 s0, .int .i64 t0, p, q]) L0 M0, kit.isV (.int .i64 a1), kit.isV (.agg #[.int .i64 x2, .int .i64 y2, .slice a2 L2.length c2, .slice b2 M2.length d2]), kit.isA2 (w4.heap.size) false (fun p q => .agg #[.int .i64 x2, .int .i64 y2, p, q]) L2 M2, kit.isA2 (w4.heap.size) false (fun p q => .tuple #[.agg #[.int .i64 T3, .int .i64 T4, .int .i64 T5, .int .i64 T6, p, q], .bool T7]) T1 T2, kit.isA2 (w4.heap.size) false (fun p q => .tuple #[.agg #[.int .i64 T3, .int .i64 T4, .int .i64 T5, .int .i64 T6, p, q], .bool T7]) T1 T2, kit.isA2 (w4.heap.size) false (fun p q => .agg #[.int .i64 T3, .int .i64 T4, .int .i64 T5, .int .i64 T6, p, q]) T1 T2, kit.isV (.bool T7), kit.isC (w4.heap.size) 28 #[.int .i64 0, .int .i64 0, .int .i64 0, .int .i64 0, .slice none 0 0, .slice none 0 0]]) (by kernel_rfl) (by decide) rfl (by decide) (by kernel_rfl) (by kernel_rfl) (by kernel_rfl) (fun _ _ _ _ _ h => h) (kit.Fs_mono ⟨kit.isV_mono _, kit.isA2_mono _ _ _ _ _, kit.isV_mono _, kit.isV_mono _, kit.isA2_mono _ _ _ _ _, kit.isA2_mono _ _ _ _ _, kit.isA2_mono _ _ _ _ _, kit.isA2_mono _ _ _ _ _, kit.isV_mono _, kit.isC_mono _ _ _, trivial⟩) ?step ?float ?tail
    case float =>
      intro f hf vs wq hd
      simp only [List.mem_cons, List.not_mem_nil, or_false] at hf
      subst hf
      · obtain ⟨x1, x2, e6', h1, h2, h3⟩ : (kit.isA2 (w4.heap.size) false (fun p q => .tuple #[.agg #[.int .i64 T3, .int .i64 T4, .int .i64 T5, .int .i64 T6, p, q], .bool T7]) T1 T2) (vs 6) wq := hd 6 (List.contains_iff_mem.1 (by kernel_rfl))
        have e6 : vs 6 = .tuple #[.agg #[.int .i64 T3, .int .i64 T4, .int .i64 T5, .int .i64 T6, x1, x2], .bool T7] := e6'
        refine ⟨_, .bool T7, rfl, rfl, .inl ⟨by rfl, fun w9 => ?_⟩, rfl⟩
        simp only [kit.lay, Act.put, List.setIfInBounds_toArray, List.set_cons_zero, List.set_cons_succ, List.getD_cons_zero, List.getD_cons_succ, id_eq]
        rw [e6]
        go_simp
    case step =>
      intro i hi vs wq hBq hd
      rcases (show i = 0 ∨ i = 1 ∨ i = 2 ∨ i = 3 ∨ i = 4 ∨ i = 5 ∨ i = 6 ∨ i = 7 ∨ i = 8 ∨ i = 9 from by omega) with rfl | rfl | rfl | rfl | rfl | rfl | rfl | rfl | rfl | rfl
      · have zpw1_0 := (hBq.cell (p := ⟨pw1, 0, none⟩) hpw1).trans xpw1_0
        have zpw1_1 := (hBq.cell (p := ⟨pw1, 1, none⟩) hpw1).trans xpw1_1
        have zpw1_2 := (hBq.cell (p := ⟨pw1, 2, none⟩) hpw1).trans xpw1_2
        have zpw1_3 := (hBq.cell (p := ⟨pw1, 3, none⟩) hpw1).trans xpw1_3
        have zpw1_4 := (hBq.cell (p := ⟨pw1, 4, none⟩) hpw1).trans xpw1_4
        have zpw1_5 := (hBq.cell (p := ⟨pw1, 5, none⟩) hpw1).trans xpw1_5
        refine wpOp_step (o := _) rfl (fun K' hK => ?_)
        have HK := Lib.hid hK
        clear hK
        simp only [kit.lay, Act.put, List.setIfInBounds_toArray, List.set_cons_zero, List.set_cons_succ, List.getD_cons_zero, List.getD_cons_succ, id_eq]
        go_simp
        refine HK.out _ _ ⟨_, ?_, Below.refl _ _, rfl⟩
        simp only [kit.lay, Act.put, List.setIfInBounds_toArray, List.set_cons_zero, List.set_cons_succ, List.getD_cons_zero, List.getD_cons_succ, id_eq]
      · have e0 : vs 0 = .agg #[.int .i64 x0, .int .i64 y0, .int .i64 s0, .int .i64 t0, .slice a0 L0.length c0, .slice b0 M0.length d0] := hd 0 (List.contains_iff_mem.1 (by kernel_rfl))
        refine wpOp_step (o := _) rfl (fun K' hK => ?_)
        have HK := Lib.hid hK
        clear hK
        simp only [kit.lay, Act.put, List.setIfInBounds_toArray, List.set_cons_zero, List.set_cons_succ, List.getD_cons_zero, List.getD_cons_succ, id_eq]
        rw [e0]
        go_simp
        go_at_call 20
        refine (kit.toAcceptor x0 y0 s0 t0 a0 c0 L0 b0 d0 M0 wq (by omega) (by omega) (HA0.out.later hBq) (HM0.out.later hBq)).mono ?_
        rintro e w2 ⟨x1, x2, rfl, h1, h2, hb, hap⟩
        refine HK.out _ _ ⟨_, ?_, hb, x1, x2, rfl, h1.mono hBq.size, h2.mono hBq.size, fun h => by cases h⟩
        simp only [kit.lay, Act.put, List.setIfInBounds_toArray, List.set_cons_zero, List.set_cons_succ, List.getD_cons_zero, List.getD_cons_succ, id_eq]
        rw [e0]
      · refine wpOp_step (o := _) rfl (fun K' hK => ?_)
        have HK := Lib.hid hK
        clear hK
        simp only [kit.lay, Act.put, List.setIfInBounds_toArray, List.set_cons_zero, List.set_cons_succ, List.getD_cons_zero, List.getD_cons_succ, id_eq]
        go_simp
        refine HK.out _ _ ⟨_, ?_, Below.refl _ _, rfl⟩
        simp only [kit.lay, Act.put, List.setIfInBounds_toArray, List.set_cons_zero, List.set_cons_succ, List.getD_cons_zero, List.getD_cons_succ, id_eq]
      · have zpw2_0 := (hBq.cell (p := ⟨pw2, 0, none⟩) hpw2).trans xpw2_0
        have zpw2_1 := (hBq.cell (p := ⟨pw2, 1, none⟩) hpw2).trans xpw2_1
        have zpw2_2 := (hBq.cell (p := ⟨pw2, 2, none⟩) hpw2).trans xpw2_2
        have zpw2_3 := (hBq.cell (p := ⟨pw2, 3, none⟩) hpw2).trans xpw2_3
        refine wpOp_step (o := _) rfl (fun K' hK => ?_)
        have HK := Lib.hid hK
        clear hK
        simp only [kit.lay, Act.put, List.setIfInBounds_toArray, List.set_cons_zero, List.set_cons_succ, List.getD_cons_zero, List.getD_cons_succ, id_eq]
        go_simp
        refine HK.out _ _ ⟨_, ?_, Below.refl _ _, rfl⟩
        simp only [kit.lay, Act.put, List.setIfInBounds_toArray, List.set_cons_zero, List.set_cons_succ, List.getD_cons_zero, List.getD_cons_succ, id_eq]
      · have e3 : vs 3 = .agg #[.int .i64 x2, .int .i64 y2, .slice a2 L2.length c2, .slice b2 M2.length d2] := hd 3 (List.contains_iff_mem.1 (by kernel_rfl))
        refine wpOp_step (o := _) rfl (fun K' hK => ?_)
        have HK := Lib.hid hK
        clear hK
        simp only [kit.lay, Act.put, List.setIfInBounds_toArray, List.set_cons_zero, List.set_cons_succ, List.getD_cons_zero, List.getD_cons_succ, id_eq]
        rw [e3]
        go_simp
        go_at_call 25
        refine (kit.toConfig x2 y2 a2 c2 L2 b2 d2 M2 wq (by omega) (by omega) (HA2.out.later hBq) (HM2.out.later hBq)).mono ?_
        rintro e w2 ⟨x1, x2, rfl, h1, h2, hb, hap⟩
        refine HK.out _ _ ⟨_, ?_, hb, x1, x2, rfl, h1.mono hBq.size, h2.mono hBq.size, fun h => by cases h⟩
        simp only [kit.lay, Act.put, List.setIfInBounds_toArray, List.set_cons_zero, List.set_cons_succ, List.getD_cons_zero, List.getD_cons_succ, id_eq]
        rw [e3]
      · obtain ⟨xr5, xr6, e1', hor5, hor6, _⟩ : kit.isA2 (w4.heap.size) false (fun p q => .agg #[.int .i64 x0, .int .i64 y0, .int .i64 s0, .int .i64 t0, p, q]) L0 M0 (vs 1) wq := hd 1 (List.contains_iff_mem.1 (by kernel_rfl))
        obtain ⟨yr5, qr5, rfl⟩ := hor5.shape
        obtain ⟨yr6, qr6, rfl⟩ := hor6.shape
        have e1 : vs 1 = .agg #[.int .i64 x0, .int .i64 y0, .int .i64 s0, .int .i64 t0, .slice yr5 L0.length qr5, .slice yr6 M0.length qr6] := e1'
        have HOr5 := Lib.hid hor5
        have HOr6 := Lib.hid hor6
        have e2 : vs 2 = .int .i64 a1 := hd 2 (List.contains_iff_mem.1 (by kernel_rfl))
        obtain ⟨xr7, xr8, e4', hor7, hor8, _⟩ : kit.isA2 (w4.heap.size) false (fun p q => .agg #[.int .i64 x2, .int .i64 y2, p, q]) L2 M2 (vs 4) wq := hd 4 (List.contains_iff_mem.1 (by kernel_rfl))
        obtain ⟨yr7, qr7, rfl⟩ := hor7.shape
        obtain ⟨yr8, qr8, rfl⟩ := hor8.shape
        have e4 : vs 4 = .agg #[.int .i64 x2, .int .i64 y2, .slice yr7 L2.length qr7, .slice yr8 M2.length qr8] := e4'
        have HOr7 := Lib.hid hor7
        have HOr8 := Lib.hid hor8
        refine wpOp_step (o := _) rfl (fun K' hK => ?_)
        have HK := Lib.hid hK
        clear hK
        simp only [kit.lay, Act.put, List.setIfInBounds_toArray, List.set_cons_zero, List.set_cons_succ, List.getD_cons_zero, List.getD_cons_succ, id_eq]
        rw [e1, e2, e4]
        go_simp
        go_at_call 15
        refine (kit.specAccept x0 y0 s0 t0 _ _ (.slice yr5 L0.length qr5) (.slice yr6 M0.length qr6) L0 M0 a1 x2 y2 _ _ (.slice yr7 L2.length qr7) (.slice yr8 M2.length qr8) L2 M2 wq (by omega) (by omega) HOr5.out HOr6.out (by omega) (by omega) HOr7.out HOr8.out).mono ?_
        rintro e w2 ⟨x1, x2, he, h1, h2, hb⟩
        rw [HT1.out] at h1
        rw [HT2.out] at h2
        rw [HT3.out] at he
        rw [HT4.out] at he
        rw [HT5.out] at he
        rw [HT6.out] at he
        rw [HT7.out] at he
        subst he
        refine HK.out _ _ ⟨_, ?_, hb, x1, x2, rfl, h1.mono hBq.size, h2.mono hBq.size, fun h => by cases h⟩
        simp only [kit.lay, Act.put, List.setIfInBounds_toArray, List.set_cons_zero, List.set_cons_succ, List.getD_cons_zero, List.getD_cons_succ, id_eq]
        rw [e1, e2, e4]
      · have f5 : (kit.isA2 (w4.heap.size) false (fun p q => .tuple #[.agg #[.int .i64 T3, .int .i64 T4, .int .i64 T5, .int .i64 T6, p, q], .bool T7]) T1 T2) (vs 5) wq := hd 5 (List.contains_iff_mem.1 (by kernel_rfl))
        refine wpOp_step (o := _) rfl (fun K' hK => ?_)
        have HK := Lib.hid hK
        clear hK
        simp only [kit.lay, Act.put, List.setIfInBounds_toArray, List.set_cons_zero, List.set_cons_succ, List.getD_cons_zero, List.getD_cons_succ, id_eq]
        go_simp
        refine HK.out _ _ ⟨_, ?_, Below.refl _ _, f5⟩
        simp only [kit.lay, Act.put, List.setIfInBounds_toArray, List.set_cons_zero, List.set_cons_succ, List.getD_cons_zero, List.getD_cons_succ, id_eq]
      · obtain ⟨x1, x2, e6', h1, h2, h3⟩ : (kit.isA2 (w4.heap.size) false (fun p q => .tuple #[.agg #[.int .i64 T3, .int .i64 T4, .int .i64 T5, .int .i64 T6, p, q], .bool T7]) T1 T2) (vs 6) wq := hd 6 (List.contains_iff_mem.1 (by kernel_rfl))
        have e6 : vs 6 = .tuple #[.agg #[.int .i64 T3, .int .i64 T4, .int .i64 T5, .int .i64 T6, x1, x2], .bool T7] := e6'
        refine wpOp_step (o := _) rfl (fun K' hK => ?_)
        have HK := Lib.hid hK
        clear hK
        simp only [kit.lay, Act.put, List.setIfInBounds_toArray, List.set_cons_zero, List.set_cons_succ, List.getD_cons_zero, List.getD_cons_succ, id_eq]
        rw [e6]
        go_simp
        refine HK.out _ _ ⟨_, ?_, Below.refl _ _, x1, x2, rfl, h1, h2, h3⟩
        simp only [kit.lay, Act.put, List.setIfInBounds_toArray, List.set_cons_zero, List.set_cons_succ, List.getD_cons_zero, List.getD_cons_succ, id_eq]
        rw [e6]
      · obtain ⟨x1, x2, e6', h1, h2, h3⟩ : (kit.isA2 (w4.heap.size) false (fun p q => .tuple #[.agg #[.int .i64 T3, .int .i64 T4, .int .i64 T5, .int .i64 T6, p, q], .bool T7]) T1 T2) (vs 6) wq := hd 6 (List.contains_iff_mem.1 (by kernel_rfl))
        have e6 : vs 6 = .tuple #[.agg #[.int .i64 T3, .int .i64 T4, .int .i64 T5, .int .i64 T6, x1, x2], .bool T7] := e6'
        refine wpOp_step (o := _) rfl (fun K' hK => ?_)
        have HK := Lib.hid hK
        clear hK
        simp only [kit.lay, Act.put, List.setIfInBounds_toArray, List.set_cons_zero, List.set_cons_succ, List.getD_cons_zero, List.getD_cons_succ, id_eq]
        rw [e6]
        go_simp
        refine HK.out _ _ ⟨_, ?_, Below.refl _ _, rfl⟩
        simp only [kit.lay, Act.put, List.setIfInBounds_toArray, List.set_cons_zero, List.set_cons_succ, List.getD_cons_zero, List.getD_cons_succ, id_eq]
        rw [e6]
      · refine wpOp_step (o := _) rfl (fun K' hK => ?_)
        have HK := Lib.hid hK
        clear hK
        simp only [kit.lay, Act.put, List.setIfInBounds_toArray, List.set_cons_zero, List.set_cons_succ, List.getD_cons_zero, List.getD_cons_succ, id_eq]
        go_simp
        refine HK.out _ _ ⟨_, ?_, (Below.refl _ _).alloc (Nat.le_refl _) _, _, rfl, kit.BoxC.new _ _ _, hBq.size⟩
        simp only [kit.lay, Act.put, List.setIfInBounds_toArray, List.set_cons_zero, List.set_cons_succ, List.getD_cons_zero, List.getD_cons_succ, id_eq]
    case tail =>
      intro vs wq hBq hf
      obtain ⟨xI, xS, e7', hI, hS, h3⟩ : kit.isA2 (w4.heap.size) false (fun p q => .agg #[.int .i64 T3, .int .i64 T4, .int .i64 T5, .int .i64 T6, p, q]) T1 T2 (vs 7) wq := hf 7 (by decide)
      obtain ⟨yI, qI, rfl⟩ := hI.shape
      obtain ⟨yS, qS, rfl⟩ := hS.shape
      have e7 : vs 7 = .agg #[.int .i64 T3, .int .i64 T4, .int .i64 T5, .int .i64 T6, .slice yI T1.length qI, .slice yS T2.length qS] := e7'
      have e8 : vs 8 = .bool T7 := hf 8 (by decide)
      obtain ⟨p0, e9, b0, n0⟩ : kit.isC (w4.heap.size) 28 #[.int .i64 0, .int .i64 0, .int .i64 0, .int .i64 0, .slice none 0 0, .slice none 0 0] (vs 9) wq := hf 9 (by decide)
      simp only [kit.lay, Act.put, List.setIfInBounds_toArray, List.set_cons_zero, List.set_cons_succ, List.getD_cons_zero, List.getD_cons_succ, id_eq]
      rw [e7, e8, e9]
      clear e7 e8 e9 e7'
      refine kit.any_all (rs := [10]) (by kernel_rfl) (by simp) ?_
      intro i hi
      simp only [List.mem_cons, List.not_mem_nil, or_false] at hi
      subst hi
      refine wpOp_step (o := _) rfl (fun K' hK => ?_)
      have HK := Lib.hid hK
      clear hK
      have kc0 := b0.c 0 rfl
      have kf0 := b0.f 0
      have kc1 := b0.c 1 rfl
      have kf1 := b0.f 1
      have kc2 := b0.c 2 rfl
      have kf2 := b0.f 2
      have kc3 := b0.c 3 rfl
      have kf3 := b0.f 3
      have kc4 := b0.c 4 rfl
      have kf4 := b0.f 4
      have kc5 := b0.c 5 rfl
      have kf5 := b0.f 5
      go_simp
      refine HK.out _ _ ?_
      clear HK K' kc0 kf0 kc1 kf1 kc2 kf2 kc3 kf3 kc4 kf4 kc5 kf5
      try simp only [Act.put, List.setIfInBounds_toArray, List.set_cons_zero, List.set_cons_succ]
      obtain ⟨wt, hW⟩ : ∃ W, W = ((((((wq.setCell ⟨p0, 0, none⟩ (.int .i64 T3)).setCell ⟨p0, 1, none⟩ (.int .i64 T4)).setCell ⟨p0, 2, none⟩ (.int .i64 T5)).setCell ⟨p0, 3, none⟩ (.int .i64 T6)).setCell ⟨p0, 4, none⟩ (.slice yI T1.length qI)).setCell ⟨p0, 5, none⟩ (.slice yS T2.length qS)) := ⟨_, rfl⟩
      rw [← hW]
      replace hI : kit.OwnI (w4.heap.size) wt _ T1 := hW ▸ kit.put6 hI b0 (by decide) _ _ _ _ _ _
      replace hS : kit.OwnI (w4.heap.size) wt _ T2 := hW ▸ kit.put6 hS b0 (by decide) _ _ _ _ _ _
      have hB9 : Below (w4.heap.size) w4 wt := hW ▸ kit.below6 hBq n0 _ _ _ _ _ _
      replace b0 : kit.BoxC wt p0 28 #[.int .i64 T3, .int .i64 T4, .int .i64 T5, .int .i64 T6, .slice yI T1.length qI, .slice yS T2.length qS] := hW ▸ ((((((b0.put 0 _).put 1 _).put 2 _).put 3 _).put 4 _).put 5 _)
      clear hW
      refine kit.any_all (rs := [11]) (by kernel_rfl) (by simp) ?_
      intro i hi
      simp only [List.mem_cons, List.not_mem_nil, or_false] at hi
      subst hi
      refine wpOp_step (o := _) rfl (fun K' hK => ?_)
      have HK := Lib.hid hK
      clear hK
      go_simp
      refine HK.out _ _ ?_
      clear HK K'
      try simp only [Act.put, List.setIfInBounds_toArray, List.set_cons_zero, List.set_cons_succ]
      refine kit.any_done (by kernel_rfl) ?_ _
      go_wp2_with fail
      go_meet
      exact ⟨p0, _, _, rfl, rfl, b0, hI, hS, n0, hB9⟩
  case rest =>
    obtain ⟨p0, xI, xS, rfl, rfl, b0, hoI, hoS, n0, hb⟩ := hcut
    obtain ⟨p9, rfl⟩ : ∃ p, p = p0 := ⟨_, rfl⟩
    obtain ⟨yr10, qr10, rfl⟩ := hoI.shape
    obtain ⟨yr11, qr11, rfl⟩ := hoS.shape
    replace xpw1_0 := (hb.cell (p := ⟨pw1, 0, none⟩) hpw1).trans xpw1_0
    replace xpw1_1 := (hb.cell (p := ⟨pw1, 1, none⟩) hpw1).trans xpw1_1
    replace xpw1_2 := (hb.cell (p := ⟨pw1, 2, none⟩) hpw1).trans xpw1_2
    replace xpw1_3 := (hb.cell (p := ⟨pw1, 3, none⟩) hpw1).trans xpw1_3
    replace xpw1_4 := (hb.cell (p := ⟨pw1, 4, none⟩) hpw1).trans xpw1_4
    replace xpw1_5 := (hb.cell (p := ⟨pw1, 5, none⟩) hpw1).trans xpw1_5
    replace hpw1 := Nat.lt_of_lt_of_le hpw1 hb.size
    replace xpw2_0 := (hb.cell (p := ⟨pw2, 0, none⟩) hpw2).trans xpw2_0
    replace xpw2_1 := (hb.cell (p := ⟨pw2, 1, none⟩) hpw2).trans xpw2_1
    replace xpw2_2 := (hb.cell (p := ⟨pw2, 2, none⟩) hpw2).trans xpw2_2
    replace xpw2_3 := (hb.cell (p := ⟨pw2, 3, none⟩) hpw2).trans xpw2_3
    replace hpw2 := Nat.lt_of_lt_of_le hpw2 hb.size
    replace HB := Lib.hid (HB.out.trans (hb.mono hz))
    replace hz := Nat.le_trans hz hb.size
    have HZwc := Lib.hid hb.size
    replace HA0 := Lib.hid (HA0.out.later hb)
    replace HM0 := Lib.hid (HM0.out.later hb)
    replace HA2 := Lib.hid (HA2.out.later hb)
    replace HM2 := Lib.hid (HM2.out.later hb)
    have HOr10 := Lib.hid hoI
    have HUr10 := Lib.hid (fun g (hg : (.slice yr10 T1.length qr10 : Value).ownBlock = some g) => (⟨(hoI.block g hg).1, (hoI.block g hg).2, kit.row_clear hoI b0 (by decide) g hg⟩ : w4.heap.size ≤ g ∧ g < wc.heap.size ∧ g ≠ p9))
    have HOr11 := Lib.hid hoS
    have HUr11 := Lib.hid (fun g (hg : (.slice yr11 T2.length qr11 : Value).ownBlock = some g) => (⟨(hoS.block g hg).1, (hoS.block g hg).2, kit.row_clear hoS b0 (by decide) g hg⟩ : w4.heap.size ≤ g ∧ g < wc.heap.size ∧ g ≠ p9))
    have hp9 := b0.lt
    have xp9_0 := b0.c 0 rfl
    have xp9_1 := b0.c 1 rfl
    have xp9_2 := b0.c 2 rfl
    have xp9_3 := b0.c 3 rfl
    have xp9_4 := b0.c 4 rfl
    have xp9_5 := b0.c 5 rfl
    have Ep9 := Lib.hid n0
    have Sp9 := Lib.hid b0.lt
    clear b0 n0 hoI hoS hb
    obtain ⟨w12, rfl⟩ : ∃ W, W = wc := ⟨_, rfl⟩
    go_wp2_with fail
    refine (kit.toAcceptor x0 y0 s0 t0 a0 c0 L0 b0 d0 M0 w12 (by omega) (by omega) HA0.out HM0.out).mono ?_
    rintro e w13 ⟨u14I, u14S, rfl, hoI, hoS, hb, hap⟩
    obtain ⟨yr15, qr15, rfl⟩ := hoI.shape
    obtain ⟨yr16, qr16, rfl⟩ := hoS.shape
    have HPr15 := Lib.hid hap
    clear hap
    replace xpw1_0 := (hb.cell (p := ⟨pw1, 0, none⟩) hpw1).trans xpw1_0
    replace xpw1_1 := (hb.cell (p := ⟨pw1, 1, none⟩) hpw1).trans xpw1_1
    replace xpw1_2 := (hb.cell (p := ⟨pw1, 2, none⟩) hpw1).trans xpw1_2
    replace xpw1_3 := (hb.cell (p := ⟨pw1, 3, none⟩) hpw1).trans xpw1_3
    replace xpw1_4 := (hb.cell (p := ⟨pw1, 4, none⟩) hpw1).trans xpw1_4
    replace xpw1_5 := (hb.cell (p := ⟨pw1, 5, none⟩) hpw1).trans xpw1_5
    replace hpw1 := Nat.lt_of_lt_of_le hpw1 hb.size
    replace xpw2_0 := (hb.cell (p := ⟨pw2, 0, none⟩) hpw2).trans xpw2_0
    replace xpw2_1 := (hb.cell (p := ⟨pw2, 1, none⟩) hpw2).trans xpw2_1
    replace xpw2_2 := (hb.cell (p := ⟨pw2, 2, none⟩) hpw2).trans xpw2_2
    replace xpw2_3 := (hb.cell (p := ⟨pw2, 3, none⟩) hpw2).trans xpw2_3
    replace hpw2 := Nat.lt_of_lt_of_le hpw2 hb.size
    replace xp9_0 := (hb.cell (p := ⟨p9, 0, none⟩) hp9).trans xp9_0
    replace xp9_1 := (hb.cell (p := ⟨p9, 1, none⟩) hp9).trans xp9_1
    replace xp9_2 := (hb.cell (p := ⟨p9, 2, none⟩) hp9).trans xp9_2
    replace xp9_3 := (hb.cell (p := ⟨p9, 3, none⟩) hp9).trans xp9_3
    replace xp9_4 := (hb.cell (p := ⟨p9, 4, none⟩) hp9).trans xp9_4
    replace xp9_5 := (hb.cell (p := ⟨p9, 5, none⟩) hp9).trans xp9_5
    replace hp9 := Nat.lt_of_lt_of_le hp9 hb.size
    replace HB := Lib.hid (HB.out.trans (hb.mono hz))
    replace hz := Nat.le_trans hz hb.size
    have HZw13 := Lib.hid hb.size
    replace HOr10 := Lib.hid (HOr10.out.later hb)
    replace HOr11 := Lib.hid (HOr11.out.later hb)
    replace HA0 := Lib.hid (HA0.out.later hb)
    replace HM0 := Lib.hid (HM0.out.later hb)
    replace HA2 := Lib.hid (HA2.out.later hb)
    replace HM2 := Lib.hid (HM2.out.later hb)
    have HOr15 := Lib.hid hoI
    have HUr15 := Lib.hid hoI.block
    clear hoI
    have HOr16 := Lib.hid hoS
    have HUr16 := Lib.hid hoS.block
    clear hoS
    clear hb
    go_wp2_with fail
    obtain ⟨w17, hw17⟩ : ∃ W, W = w13.alloc (.cells #[.int .i64 x0, .int .i64 y0, .int .i64 s0, .int .i64 t0, .slice yr15 L0.length qr15, .slice yr16 M0.length qr16] 28) := ⟨_, rfl⟩
    rw [← hw17]
    obtain ⟨pw17, epw17⟩ : ∃ p, p = w13.heap.size := ⟨_, rfl⟩
    rw [← epw17]
    have Epw17 := Lib.hid epw17
    have epw17' := Epw17.out
    clear epw17
    have xpw17_0 : w17.cell? ⟨pw17, 0, none⟩ = some (.int .i64 x0) := by rw [hw17, epw17', World.cell?_alloc_at _ _ _ _ rfl]; rfl
    have xpw17_1 : w17.cell? ⟨pw17, 1, none⟩ = some (.int .i64 y0) := by rw [hw17, epw17', World.cell?_alloc_at _ _ _ _ rfl]; rfl
    have xpw17_2 : w17.cell? ⟨pw17, 2, none⟩ = some (.int .i64 s0) := by rw [hw17, epw17', World.cell?_alloc_at _ _ _ _ rfl]; rfl
    have xpw17_3 : w17.cell? ⟨pw17, 3, none⟩ = some (.int .i64 t0) := by rw [hw17, epw17', World.cell?_alloc_at _ _ _ _ rfl]; rfl
    have xpw17_4 : w17.cell? ⟨pw17, 4, none⟩ = some (.slice yr15 L0.length qr15) := by rw [hw17, epw17', World.cell?_alloc_at _ _ _ _ rfl]; rfl
    have xpw17_5 : w17.cell? ⟨pw17, 5, none⟩ = some (.slice yr16 M0.length qr16) := by rw [hw17, epw17', World.cell?_alloc_at _ _ _ _ rfl]; rfl
    have hpw17 : pw17 < w17.heap.size := by rw [hw17, epw17', World.size_alloc]; exact Nat.lt_succ_self _
    have hb : Below w13.heap.size w13 w17 := by rw [hw17]; exact (Below.refl _ _).alloc (Nat.le_refl _) _
    have Sw17 := Lib.hid (show w17.heap.size = w13.heap.size + 1 by rw [hw17, World.size_alloc])
    replace xpw1_0 := (hb.cell (p := ⟨pw1, 0, none⟩) hpw1).trans xpw1_0
    replace xpw1_1 := (hb.cell (p := ⟨pw1, 1, none⟩) hpw1).trans xpw1_1
    replace xpw1_2 := (hb.cell (p := ⟨pw1, 2, none⟩) hpw1).trans xpw1_2
    replace xpw1_3 := (hb.cell (p := ⟨pw1, 3, none⟩) hpw1).trans xpw1_3
    replace xpw1_4 := (hb.cell (p := ⟨pw1, 4, none⟩) hpw1).trans xpw1_4
    replace xpw1_5 := (hb.cell (p := ⟨pw1, 5, none⟩) hpw1).trans xpw1_5
    replace hpw1 := Nat.lt_of_lt_of_le hpw1 hb.size
    replace xpw2_0 := (hb.cell (p := ⟨pw2, 0, none⟩) hpw2).trans xpw2_0
    replace xpw2_1 := (hb.cell (p := ⟨pw2, 1, none⟩) hpw2).trans xpw2_1
    replace xpw2_2 := (hb.cell (p := ⟨pw2, 2, none⟩) hpw2).trans xpw2_2
    replace xpw2_3 := (hb.cell (p := ⟨pw2, 3, none⟩) hpw2).trans xpw2_3
    replace hpw2 := Nat.lt_of_lt_of_le hpw2 hb.size
    replace xp9_0 := (hb.cell (p := ⟨p9, 0, none⟩) hp9).trans xp9_0
    replace xp9_1 := (hb.cell (p := ⟨p9, 1, none⟩) hp9).trans xp9_1
    replace xp9_2 := (hb.cell (p := ⟨p9, 2, none⟩) hp9).trans xp9_2
    replace xp9_3 := (hb.cell (p := ⟨p9, 3, none⟩) hp9).trans xp9_3
    replace xp9_4 := (hb.cell (p := ⟨p9, 4, none⟩) hp9).trans xp9_4
    replace xp9_5 := (hb.cell (p := ⟨p9, 5, none⟩) hp9).trans xp9_5
    replace hp9 := Nat.lt_of_lt_of_le hp9 hb.size
    replace HB := Lib.hid (HB.out.trans (hb.mono hz))
    replace hz := Nat.le_trans hz hb.size
    have HZw17 := Lib.hid hb.size
    replace HOr10 := Lib.hid (HOr10.out.later hb)
    replace HOr11 := Lib.hid (HOr11.out.later hb)
    replace HOr15 := Lib.hid (HOr15.out.later hb)
    replace HOr16 := Lib.hid (HOr16.out.later hb)
    replace HA0 := Lib.hid (HA0.out.later hb)
    replace HM0 := Lib.hid (HM0.out.later hb)
    replace HA2 := Lib.hid (HA2.out.later hb)
    replace HM2 := Lib.hid (HM2.out.later hb)
    clear hb
    clear epw17' hw17
    refine (kit.toConfig x2 y2 a2 c2 L2 b2 d2 M2 w17 (by omega) (by omega) HA2.out HM2.out).mono ?_
    rintro e w18 ⟨u19I, u19S, rfl, hoI, hoS, hb, hap⟩
    obtain ⟨yr20, qr20, rfl⟩ := hoI.shape
    obtain ⟨yr21, qr21, rfl⟩ := hoS.shape
    have HPr20 := Lib.hid hap
    clear hap
    replace xpw1_0 := (hb.cell (p := ⟨pw1, 0, none⟩) hpw1).trans xpw1_0
    replace xpw1_1 := (hb.cell (p := ⟨pw1, 1, none⟩) hpw1).trans xpw1_1
    replace xpw1_2 := (hb.cell (p := ⟨pw1, 2, none⟩) hpw1).trans xpw1_2
    replace xpw1_3 := (hb.cell (p := ⟨pw1, 3, none⟩) hpw1).trans xpw1_3
    replace xpw1_4 := (hb.cell (p := ⟨pw1, 4, none⟩) hpw1).trans xpw1_4
    replace xpw1_5 := (hb.cell (p := ⟨pw1, 5, none⟩) hpw1).trans xpw1_5
    replace hpw1 := Nat.lt_of_lt_of_le hpw1 hb.size
    replace xpw2_0 := (hb.cell (p := ⟨pw2, 0, none⟩) hpw2).trans xpw2_0
    replace xpw2_1 := (hb.cell (p := ⟨pw2, 1, none⟩) hpw2).trans xpw2_1
    replace xpw2_2 := (hb.cell (p := ⟨pw2, 2, none⟩) hpw2).trans xpw2_2
    replace xpw2_3 := (hb.cell (p := ⟨pw2, 3, none⟩) hpw2).trans xpw2_3
    replace hpw2 := Nat.lt_of_lt_of_le hpw2 hb.size
    replace xp9_0 := (hb.cell (p := ⟨p9, 0, none⟩) hp9).trans xp9_0
    replace xp9_1 := (hb.cell (p := ⟨p9, 1, none⟩) hp9).trans xp9_1
    replace xp9_2 := (hb.cell (p := ⟨p9, 2, none⟩) hp9).trans xp9_2
    replace xp9_3 := (hb.cell (p := ⟨p9, 3, none⟩) hp9).trans xp9_3
    replace xp9_4 := (hb.cell (p := ⟨p9, 4, none⟩) hp9).trans xp9_4
    replace xp9_5 := (hb.cell (p := ⟨p9, 5, none⟩) hp9).trans xp9_5
    replace hp9 := Nat.lt_of_lt_of_le hp9 hb.size
    replace xpw17_0 := (hb.cell (p := ⟨pw17, 0, none⟩) hpw17).trans xpw17_0
    replace xpw17_1 := (hb.cell (p := ⟨pw17, 1, none⟩) hpw17).trans xpw17_1
    replace xpw17_2 := (hb.cell (p := ⟨pw17, 2, none⟩) hpw17).trans xpw17_2
    replace xpw17_3 := (hb.cell (p := ⟨pw17, 3, none⟩) hpw17).trans xpw17_3
    replace xpw17_4 := (hb.cell (p := ⟨pw17, 4, none⟩) hpw17).trans xpw17_4
    replace xpw17_5 := (hb.cell (p := ⟨pw17, 5, none⟩) hpw17).trans xpw17_5
    replace hpw17 := Nat.lt_of_lt_of_le hpw17 hb.size
    replace HB := Lib.hid (HB.out.trans (hb.mono hz))
    replace hz := Nat.le_trans hz hb.size
    have HZw18 := Lib.hid hb.size
    replace HOr10 := Lib.hid (HOr10.out.later hb)
    replace HOr11 := Lib.hid (HOr11.out.later hb)
    replace HOr15 := Lib.hid (HOr15.out.later hb)
    replace HOr16 := Lib.hid (HOr16.out.later hb)
    replace HA0 := Lib.hid (HA0.out.later hb)
    replace HM0 := Lib.hid (HM0.out.later hb)
    replace HA2 := Lib.hid (HA2.out.later hb)
    replace HM2 := Lib.hid (HM2.out.later hb)
    have HOr20 := Lib.hid hoI
    have HUr20 := Lib.hid hoI.block
    clear hoI
    have HOr21 := Lib.hid hoS
    have HUr21 := Lib.hid hoS.block
    clear hoS
    clear hb
    go_wp2_with fail
    obtain ⟨w22, hw22⟩ : ∃ W, W = w18.alloc (.cells #[.int .i64 x2, .int .i64 y2, .slice yr20 L2.length qr20, .slice yr21 M2.length qr21] 26) := ⟨_, rfl⟩
    rw [← hw22]
    obtain ⟨pw22, epw22⟩ : ∃ p, p = w18.heap.size := ⟨_, rfl⟩
    rw [← epw22]
    have Epw22 := Lib.hid epw22
    have epw22' := Epw22.out
    clear epw22
    have xpw22_0 : w22.cell? ⟨pw22, 0, none⟩ = some (.int .i64 x2) := by rw [hw22, epw22', World.cell?_alloc_at _ _ _ _ rfl]; rfl
    have xpw22_1 : w22.cell? ⟨pw22, 1, none⟩ = some (.int .i64 y2) := by rw [hw22, epw22', World.cell?_alloc_at _ _ _ _ rfl]; rfl
    have xpw22_2 : w22.cell? ⟨pw22, 2, none⟩ = some (.slice yr20 L2.length qr20) := by rw [hw22, epw22', World.cell?_alloc_at _ _ _ _ rfl]; rfl
    have xpw22_3 : w22.cell? ⟨pw22, 3, none⟩ = some (.slice yr21 M2.length qr21) := by rw [hw22, epw22', World.cell?_alloc_at _ _ _ _ rfl]; rfl
    have hpw22 : pw22 < w22.heap.size := by rw [hw22, epw22', World.size_alloc]; exact Nat.lt_succ_self _
    have hb : Below w18.heap.size w18 w22 := by rw [hw22]; exact (Below.refl _ _).alloc (Nat.le_refl _) _
    have Sw22 := Lib.hid (show w22.heap.size = w18.heap.size + 1 by rw [hw22, World.size_alloc])
    replace xpw1_0 := (hb.cell (p := ⟨pw1, 0, none⟩) hpw1).trans xpw1_0
    replace xpw1_1 := (hb.cell (p := ⟨pw1, 1, none⟩) hpw1).trans xpw1_1
    replace xpw1_2 := (hb.cell (p := ⟨pw1, 2, none⟩) hpw1).trans xpw1_2
    replace xpw1_3 := (hb.cell (p := ⟨pw1, 3, none⟩) hpw1).trans xpw1_3
    replace xpw1_4 := (hb.cell (p := ⟨pw1, 4, none⟩) hpw1).trans xpw1_4
    replace xpw1_5 := (hb.cell (p := ⟨pw1, 5, none⟩) hpw1).trans xpw1_5
    replace hpw1 := Nat.lt_of_lt_of_le hpw1 hb.size
    replace xpw2_0 := (hb.cell (p := ⟨pw2, 0, none⟩) hpw2).trans xpw2_0
    replace xpw2_1 := (hb.cell (p := ⟨pw2, 1, none⟩) hpw2).trans xpw2_1
    replace xpw2_2 := (hb.cell (p := ⟨pw2, 2, none⟩) hpw2).trans xpw2_2
    replace xpw2_3 := (hb.cell (p := ⟨pw2, 3, none⟩) hpw2).trans xpw2_3
    replace hpw2 := Nat.lt_of_lt_of_le hpw2 hb.size
    replace xp9_0 := (hb.cell (p := ⟨p9, 0, none⟩) hp9).trans xp9_0
    replace xp9_1 := (hb.cell (p := ⟨p9, 1, none⟩) hp9).trans xp9_1
    replace xp9_2 := (hb.cell (p := ⟨p9, 2, none⟩) hp9).trans xp9_2
    replace xp9_3 := (hb.cell (p := ⟨p9, 3, none⟩) hp9).trans xp9_3
    replace xp9_4 := (hb.cell (p := ⟨p9, 4, none⟩) hp9).trans xp9_4
    replace xp9_5 := (hb.cell (p := ⟨p9, 5, none⟩) hp9).trans xp9_5
    replace hp9 := Nat.lt_of_lt_of_le hp9 hb.size
    replace xpw17_0 := (hb.cell (p := ⟨pw17, 0, none⟩) hpw17).trans xpw17_0
    replace xpw17_1 := (hb.cell (p := ⟨pw17, 1, none⟩) hpw17).trans xpw17_1
    replace xpw17_2 := (hb.cell (p := ⟨pw17, 2, none⟩) hpw17).trans xpw17_2
    replace xpw17_3 := (hb.cell (p := ⟨pw17, 3, none⟩) hpw17).trans xpw17_3
    replace xpw17_4 := (hb.cell (p := ⟨pw17, 4, none⟩) hpw17).trans xpw17_4
    replace xpw17_5 := (hb.cell (p := ⟨pw17, 5, none⟩) hpw17).trans xpw17_5
    replace hpw17 := Nat.lt_of_lt_of_le hpw17 hb.size
    replace HB := Lib.hid (HB.out.trans (hb.mono hz))
    replace hz := Nat.le_trans hz hb.size
    have HZw22 := Lib.hid hb.size
    replace HOr10 := Lib.hid (HOr10.out.later hb)
    replace HOr11 := Lib.hid (HOr11.out.later hb)
    replace HOr15 := Lib.hid (HOr15.out.later hb)
    replace HOr16 := Lib.hid (HOr16.out.later hb)
    replace HOr20 := Lib.hid (HOr20.out.later hb)
    replace HOr21 := Lib.hid (HOr21.out.later hb)
    replace HA0 := Lib.hid (HA0.out.later hb)
    replace HM0 := Lib.hid (HM0.out.later hb)
    replace HA2 := Lib.hid (HA2.out.later hb)
    replace HM2 := Lib.hid (HM2.out.later hb)
    clear hb
    clear epw22' hw22
    refine (kit.implAccept x0 y0 s0 t0 _ _ (.slice yr15 L0.length qr15) (.slice yr16 M0.length qr16) L0 M0 a1 x2 y2 _ _ (.slice yr20 L2.length qr20) (.slice yr21 M2.length qr21) L2 M2 w22 (by omega) (by omega) HOr15.out HOr16.out (by omega) (by omega) HOr20.out HOr21.out).mono ?_
    rintro e w23 ⟨uI, uS, he, hoI, hoS, hb, hap⟩
    rw [HT1.out] at hoI
    rw [HT2.out] at hoS
    rw [HT3.out] at he
    rw [HT4.out] at he
    rw [HT5.out] at he
    rw [HT6.out] at he
    rw [HT7.out] at he
    obtain ⟨yr24, qr24, rfl⟩ := hoI.shape
    obtain ⟨yr25, qr25, rfl⟩ := hoS.shape
    have HPr24 := Lib.hid hap
    clear hap
    subst he
    replace xpw1_0 := (hb.cell (p := ⟨pw1, 0, none⟩) hpw1).trans xpw1_0
    replace xpw1_1 := (hb.cell (p := ⟨pw1, 1, none⟩) hpw1).trans xpw1_1
    replace xpw1_2 := (hb.cell (p := ⟨pw1, 2, none⟩) hpw1).trans xpw1_2
    replace xpw1_3 := (hb.cell (p := ⟨pw1, 3, none⟩) hpw1).trans xpw1_3
    replace xpw1_4 := (hb.cell (p := ⟨pw1, 4, none⟩) hpw1).trans xpw1_4
    replace xpw1_5 := (hb.cell (p := ⟨pw1, 5, none⟩) hpw1).trans xpw1_5
    replace hpw1 := Nat.lt_of_lt_of_le hpw1 hb.size
    replace xpw2_0 := (hb.cell (p := ⟨pw2, 0, none⟩) hpw2).trans xpw2_0
    replace xpw2_1 := (hb.cell (p := ⟨pw2, 1, none⟩) hpw2).trans xpw2_1
    replace xpw2_2 := (hb.cell (p := ⟨pw2, 2, none⟩) hpw2).trans xpw2_2
    replace xpw2_3 := (hb.cell (p := ⟨pw2, 3, none⟩) hpw2).trans xpw2_3
    replace hpw2 := Nat.lt_of_lt_of_le hpw2 hb.size
    replace xp9_0 := (hb.cell (p := ⟨p9, 0, none⟩) hp9).trans xp9_0
    replace xp9_1 := (hb.cell (p := ⟨p9, 1, none⟩) hp9).trans xp9_1
    replace xp9_2 := (hb.cell (p := ⟨p9, 2, none⟩) hp9).trans xp9_2
    replace xp9_3 := (hb.cell (p := ⟨p9, 3, none⟩) hp9).trans xp9_3
    replace xp9_4 := (hb.cell (p := ⟨p9, 4, none⟩) hp9).trans xp9_4
    replace xp9_5 := (hb.cell (p := ⟨p9, 5, none⟩) hp9).trans xp9_5
    replace hp9 := Nat.lt_of_lt_of_le hp9 hb.size
    replace xpw17_0 := (hb.cell (p := ⟨pw17, 0, none⟩) hpw17).trans xpw17_0
    replace xpw17_1 := (hb.cell (p := ⟨pw17, 1, none⟩) hpw17).trans xpw17_1
    replace xpw17_2 := (hb.cell (p := ⟨pw17, 2, none⟩) hpw17).trans xpw17_2
    replace xpw17_3 := (hb.cell (p := ⟨pw17, 3, none⟩) hpw17).trans xpw17_3
    replace xpw17_4 := (hb.cell (p := ⟨pw17, 4, none⟩) hpw17).trans xpw17_4
    replace xpw17_5 := (hb.cell (p := ⟨pw17, 5, none⟩) hpw17).trans xpw17_5
    replace hpw17 := Nat.lt_of_lt_of_le hpw17 hb.size
    replace xpw22_0 := (hb.cell (p := ⟨pw22, 0, none⟩) hpw22).trans xpw22_0
    replace xpw22_1 := (hb.cell (p := ⟨pw22, 1, none⟩) hpw22).trans xpw22_1
    replace xpw22_2 := (hb.cell (p := ⟨pw22, 2, none⟩) hpw22).trans xpw22_2
    replace xpw22_3 := (hb.cell (p := ⟨pw22, 3, none⟩) hpw22).trans xpw22_3
    replace hpw22 := Nat.lt_of_lt_of_le hpw22 hb.size
    replace HB := Lib.hid (HB.out.trans (hb.mono hz))
    replace hz := Nat.le_trans hz hb.size
    have HZw23 := Lib.hid hb.size
    replace HOr10 := Lib.hid (HOr10.out.later hb)
    replace HOr11 := Lib.hid (HOr11.out.later hb)
    replace HOr15 := Lib.hid (HOr15.out.later hb)
    replace HOr16 := Lib.hid (HOr16.out.later hb)
    replace HOr20 := Lib.hid (HOr20.out.later hb)
    replace HOr21 := Lib.hid (HOr21.out.later hb)
    replace HA0 := Lib.hid (HA0.out.later hb)
    replace HM0 := Lib.hid (HM0.out.later hb)
    replace HA2 := Lib.hid (HA2.out.later hb)
    replace HM2 := Lib.hid (HM2.out.later hb)
    have HOr24 := Lib.hid hoI
    have HUr24 := Lib.hid hoI.block
    clear hoI
    have HOr25 := Lib.hid hoS
    have HUr25 := Lib.hid hoS.block
    clear hoS
    clear hb
    go_wp2_with fail
    obtain ⟨w26, hw26⟩ : ∃ W, W = w23.alloc (.cells #[.int .i64 T3, .int .i64 T4, .int .i64 T5, .int .i64 T6, .slice yr24 T1.length qr24, .slice yr25 T2.length qr25] 28) := ⟨_, rfl⟩
    rw [← hw26]
    obtain ⟨pw26, epw26⟩ : ∃ p, p = w23.heap.size := ⟨_, rfl⟩
    rw [← epw26]
    have Epw26 := Lib.hid epw26
    have epw26' := Epw26.out
    clear epw26
    have xpw26_0 : w26.cell? ⟨pw26, 0, none⟩ = some (.int .i64 T3) := by rw [hw26, epw26', World.cell?_alloc_at _ _ _ _ rfl]; rfl
    have xpw26_1 : w26.cell? ⟨pw26, 1, none⟩ = some (.int .i64 T4) := by rw [hw26, epw26', World.cell?_alloc_at _ _ _ _ rfl]; rfl
    have xpw26_2 : w26.cell? ⟨pw26, 2, none⟩ = some (.int .i64 T5) := by rw [hw26, epw26', World.cell?_alloc_at _ _ _ _ rfl]; rfl
    have xpw26_3 : w26.cell? ⟨pw26, 3, none⟩ = some (.int .i64 T6) := by rw [hw26, epw26', World.cell?_alloc_at _ _ _ _ rfl]; rfl
    have xpw26_4 : w26.cell? ⟨pw26, 4, none⟩ = some (.slice yr24 T1.length qr24) := by rw [hw26, epw26', World.cell?_alloc_at _ _ _ _ rfl]; rfl
    have xpw26_5 : w26.cell? ⟨pw26, 5, none⟩ = some (.slice yr25 T2.length qr25) := by rw [hw26, epw26', World.cell?_alloc_at _ _ _ _ rfl]; rfl
    have hpw26 : pw26 < w26.heap.size := by rw [hw26, epw26', World.size_alloc]; exact Nat.lt_succ_self _
    have hb : Below w23.heap.size w23 w26 := by rw [hw26]; exact (Below.refl _ _).alloc (Nat.le_refl _) _
    have Sw26 := Lib.hid (show w26.heap.size = w23.heap.size + 1 by rw [hw26, World.size_alloc])
    replace xpw1_0 := (hb.cell (p := ⟨pw1, 0, none⟩) hpw1).trans xpw1_0
    replace xpw1_1 := (hb.cell (p := ⟨pw1, 1, none⟩) hpw1).trans xpw1_1
    replace xpw1_2 := (hb.cell (p := ⟨pw1, 2, none⟩) hpw1).trans xpw1_2
    replace xpw1_3 := (hb.cell (p := ⟨pw1, 3, none⟩) hpw1).trans xpw1_3
    replace xpw1_4 := (hb.cell (p := ⟨pw1, 4, none⟩) hpw1).trans xpw1_4
    replace xpw1_5 := (hb.cell (p := ⟨pw1, 5, none⟩) hpw1).trans xpw1_5
    replace hpw1 := Nat.lt_of_lt_of_le hpw1 hb.size
    replace xpw2_0 := (hb.cell (p := ⟨pw2, 0, none⟩) hpw2).trans xpw2_0
    replace xpw2_1 := (hb.cell (p := ⟨pw2, 1, none⟩) hpw2).trans xpw2_1
    replace xpw2_2 := (hb.cell (p := ⟨pw2, 2, none⟩) hpw2).trans xpw2_2
    replace xpw2_3 := (hb.cell (p := ⟨pw2, 3, none⟩) hpw2).trans xpw2_3
    replace hpw2 := Nat.lt_of_lt_of_le hpw2 hb.size
    replace xp9_0 := (hb.cell (p := ⟨p9, 0, none⟩) hp9).trans xp9_0
    replace xp9_1 := (hb.cell (p := ⟨p9, 1, none⟩) hp9).trans xp9_1
    replace xp9_2 := (hb.cell (p := ⟨p9, 2, none⟩) hp9).trans xp9_2
    replace xp9_3 := (hb.cell (p := ⟨p9, 3, none⟩) hp9).trans xp9_3
    replace xp9_4 := (hb.cell (p := ⟨p9, 4, none⟩) hp9).trans xp9_4
    replace xp9_5 := (hb.cell (p := ⟨p9, 5, none⟩) hp9).trans xp9_5
    replace hp9 := Nat.lt_of_lt_of_le hp9 hb.size
    replace xpw17_0 := (hb.cell (p := ⟨pw17, 0, none⟩) hpw17).trans xpw17_0
    replace xpw17_1 := (hb.cell (p := ⟨pw17, 1, none⟩) hpw17).trans xpw17_1
    replace xpw17_2 := (hb.cell (p := ⟨pw17, 2, none⟩) hpw17).trans xpw17_2
    replace xpw17_3 := (hb.cell (p := ⟨pw17, 3, none⟩) hpw17).trans xpw17_3
    replace xpw17_4 := (hb.cell (p := ⟨pw17, 4, none⟩) hpw17).trans xpw17_4
    replace xpw17_5 := (hb.cell (p := ⟨pw17, 5, none⟩) hpw17).trans xpw17_5
    replace hpw17 := Nat.lt_of_lt_of_le hpw17 hb.size
    replace xpw22_0 := (hb.cell (p := ⟨pw22, 0, none⟩) hpw22).trans xpw22_0
    replace xpw22_1 := (hb.cell (p := ⟨pw22, 1, none⟩) hpw22).trans xpw22_1
    replace xpw22_2 := (hb.cell (p := ⟨pw22, 2, none⟩) hpw22).trans xpw22_2
    replace xpw22_3 := (hb.cell (p := ⟨pw22, 3, none⟩) hpw22).trans xpw22_3
    replace hpw22 := Nat.lt_of_lt_of_le hpw22 hb.size
    replace HB := Lib.hid (HB.out.trans (hb.mono hz))
    replace hz := Nat.le_trans hz hb.size
    have HZw26 := Lib.hid hb.size
    replace HOr10 := Lib.hid (HOr10.out.later hb)
    replace HOr11 := Lib.hid (HOr11.out.later hb)
    replace HOr15 := Lib.hid (HOr15.out.later hb)
    replace HOr16 := Lib.hid (HOr16.out.later hb)
    replace HOr20 := Lib.hid (HOr20.out.later hb)
    replace HOr21 := Lib.hid (HOr21.out.later hb)
    replace HOr24 := Lib.hid (HOr24.out.later hb)
    replace HOr25 := Lib.hid (HOr25.out.later hb)
    replace HA0 := Lib.hid (HA0.out.later hb)
    replace HM0 := Lib.hid (HM0.out.later hb)
    replace HA2 := Lib.hid (HA2.out.later hb)
    replace HM2 := Lib.hid (HM2.out.later hb)
    clear hb
    clear epw26' hw26
    refine (kit.eqAcceptorO T3 T4 T5 T6 _ _ (.slice yr24 T1.length qr24) (.slice yr25 T2.length qr25) T1 T2 T3 T4 T5 T6 _ _ (.slice yr10 T1.length qr10) (.slice yr11 T2.length qr11) T1 T2 w26 (by omega) (by omega) HOr24.out HOr25.out (by omega) (by omega) HOr10.out HOr11.out).mono ?_
    rintro e w27 ⟨he, hb⟩
    rw [decide_eq_true ⟨rfl, rfl, rfl, rfl, rfl, rfl⟩] at he
    subst he
    replace xpw1_0 := (hb.cell (p := ⟨pw1, 0, none⟩) hpw1).trans xpw1_0
    replace xpw1_1 := (hb.cell (p := ⟨pw1, 1, none⟩) hpw1).trans xpw1_1
    replace xpw1_2 := (hb.cell (p := ⟨pw1, 2, none⟩) hpw1).trans xpw1_2
    replace xpw1_3 := (hb.cell (p := ⟨pw1, 3, none⟩) hpw1).trans xpw1_3
    replace xpw1_4 := (hb.cell (p := ⟨pw1, 4, none⟩) hpw1).trans xpw1_4
    replace xpw1_5 := (hb.cell (p := ⟨pw1, 5, none⟩) hpw1).trans xpw1_5
    replace hpw1 := Nat.lt_of_lt_of_le hpw1 hb.size
    replace xpw2_0 := (hb.cell (p := ⟨pw2, 0, none⟩) hpw2).trans xpw2_0
    replace xpw2_1 := (hb.cell (p := ⟨pw2, 1, none⟩) hpw2).trans xpw2_1
    replace xpw2_2 := (hb.cell (p := ⟨pw2, 2, none⟩) hpw2).trans xpw2_2
    replace xpw2_3 := (hb.cell (p := ⟨pw2, 3, none⟩) hpw2).trans xpw2_3
    replace hpw2 := Nat.lt_of_lt_of_le hpw2 hb.size
    replace xp9_0 := (hb.cell (p := ⟨p9, 0, none⟩) hp9).trans xp9_0
    replace xp9_1 := (hb.cell (p := ⟨p9, 1, none⟩) hp9).trans xp9_1
    replace xp9_2 := (hb.cell (p := ⟨p9, 2, none⟩) hp9).trans xp9_2
    replace xp9_3 := (hb.cell (p := ⟨p9, 3, none⟩) hp9).trans xp9_3
    replace xp9_4 := (hb.cell (p := ⟨p9, 4, none⟩) hp9).trans xp9_4
    replace xp9_5 := (hb.cell (p := ⟨p9, 5, none⟩) hp9).trans xp9_5
    replace hp9 := Nat.lt_of_lt_of_le hp9 hb.size
    replace xpw17_0 := (hb.cell (p := ⟨pw17, 0, none⟩) hpw17).trans xpw17_0
    replace xpw17_1 := (hb.cell (p := ⟨pw17, 1, none⟩) hpw17).trans xpw17_1
    replace xpw17_2 := (hb.cell (p := ⟨pw17, 2, none⟩) hpw17).trans xpw17_2
    replace xpw17_3 := (hb.cell (p := ⟨pw17, 3, none⟩) hpw17).trans xpw17_3
    replace xpw17_4 := (hb.cell (p := ⟨pw17, 4, none⟩) hpw17).trans xpw17_4
    replace xpw17_5 := (hb.cell (p := ⟨pw17, 5, none⟩) hpw17).trans xpw17_5
    replace hpw17 := Nat.lt_of_lt_of_le hpw17 hb.size
    replace xpw22_0 := (hb.cell (p := ⟨pw22, 0, none⟩) hpw22).trans xpw22_0
    replace xpw22_1 := (hb.cell (p := ⟨pw22, 1, none⟩) hpw22).trans xpw22_1
    replace xpw22_2 := (hb.cell (p := ⟨pw22, 2, none⟩) hpw22).trans xpw22_2
    replace xpw22_3 := (hb.cell (p := ⟨pw22, 3, none⟩) hpw22).trans xpw22_3
    replace hpw22 := Nat.lt_of_lt_of_le hpw22 hb.size
    replace xpw26_0 := (hb.cell (p := ⟨pw26, 0, none⟩) hpw26).trans xpw26_0
    replace xpw26_1 := (hb.cell (p := ⟨pw26, 1, none⟩) hpw26).trans xpw26_1
    replace xpw26_2 := (hb.cell (p := ⟨pw26, 2, none⟩) hpw26).trans xpw26_2
    replace xpw26_3 := (hb.cell (p := ⟨pw26, 3, none⟩) hpw26).trans xpw26_3
    replace xpw26_4 := (hb.cell (p := ⟨pw26, 4, none⟩) hpw26).trans xpw26_4
    replace xpw26_5 := (hb.cell (p := ⟨pw26, 5, none⟩) hpw26).trans xpw26_5
    replace hpw26 := Nat.lt_of_lt_of_le hpw26 hb.size
    replace HB := Lib.hid (HB.out.trans (hb.mono hz))
    replace hz := Nat.le_trans hz hb.size
    have HZw27 := Lib.hid hb.size
    replace HOr10 := Lib.hid (HOr10.out.later hb)
    replace HOr11 := Lib.hid (HOr11.out.later hb)
    replace HOr15 := Lib.hid (HOr15.out.later hb)
    replace HOr16 := Lib.hid (HOr16.out.later hb)
    replace HOr20 := Lib.hid (HOr20.out.later hb)
    replace HOr21 := Lib.hid (HOr21.out.later hb)
    replace HOr24 := Lib.hid (HOr24.out.later hb)
    replace HOr25 := Lib.hid (HOr25.out.later hb)
    replace HA0 := Lib.hid (HA0.out.later hb)
    replace HM0 := Lib.hid (HM0.out.later hb)
    replace HA2 := Lib.hid (HA2.out.later hb)
    replace HM2 := Lib.hid (HM2.out.later hb)
    clear hb
    go_wp2_with fail
    go_upto_region 14 with (fail)
    go_cut [62] (fun b wx => b = .bool false ∧ Below w27.heap.size w27 wx)
    case first =>
      have hW0 := (Below.refl w27.heap.size w27).drew
      go_region_with (first | (go_at_call 20; (with_reducible refine (kit.toAcceptor x0 y0 s0 t0 a0 c0 L0 b0 d0 M0 _ (by omega) (by omega) (HA0.out.later hW0) (HM0.out.later hW0)).mono ?_); rintro e wa ⟨uI, uS, rfl, hoI, hoS, hb, hap⟩; obtain ⟨ya, qa, rfl⟩ := hoI.shape; obtain ⟨yb, qb, rfl⟩ := hoS.shape; have hB0 := hW0.trans (hb.mono hW0.size); have xpw1_0 := (hB0.cell (p := ⟨pw1, 0, none⟩) hpw1).trans xpw1_0; have xpw1_1 := (hB0.cell (p := ⟨pw1, 1, none⟩) hpw1).trans xpw1_1; have xpw1_2 := (hB0.cell (p := ⟨pw1, 2, none⟩) hpw1).trans xpw1_2; have xpw1_3 := (hB0.cell (p := ⟨pw1, 3, none⟩) hpw1).trans xpw1_3; have xpw1_4 := (hB0.cell (p := ⟨pw1, 4, none⟩) hpw1).trans xpw1_4; have xpw1_5 := (hB0.cell (p := ⟨pw1, 5, none⟩) hpw1).trans xpw1_5; have xpw2_0 := (hB0.cell (p := ⟨pw2, 0, none⟩) hpw2).trans xpw2_0; have xpw2_1 := (hB0.cell (p := ⟨pw2, 1, none⟩) hpw2).trans xpw2_1; have xpw2_2 := (hB0.cell (p := ⟨pw2, 2, none⟩) hpw2).trans xpw2_2; have xpw2_3 := (hB0.cell (p := ⟨pw2, 3, none⟩) hpw2).trans xpw2_3; have xp9_0 := (hB0.cell (p := ⟨p9, 0, none⟩) hp9).trans xp9_0; have xp9_1 := (hB0.cell (p := ⟨p9, 1, none⟩) hp9).trans xp9_1; have xp9_2 := (hB0.cell (p := ⟨p9, 2, none⟩) hp9).trans xp9_2; have xp9_3 := (hB0.cell (p := ⟨p9, 3, none⟩) hp9).trans xp9_3; have xp9_4 := (hB0.cell (p := ⟨p9, 4, none⟩) hp9).trans xp9_4; have xp9_5 := (hB0.cell (p := ⟨p9, 5, none⟩) hp9).trans xp9_5; have xpw17_0 := (hB0.cell (p := ⟨pw17, 0, none⟩) hpw17).trans xpw17_0; have xpw17_1 := (hB0.cell (p := ⟨pw17, 1, none⟩) hpw17).trans xpw17_1; have xpw17_2 := (hB0.cell (p := ⟨pw17, 2, none⟩) hpw17).trans xpw17_2; have xpw17_3 := (hB0.cell (p := ⟨pw17, 3, none⟩) hpw17).trans xpw17_3; have xpw17_4 := (hB0.cell (p := ⟨pw17, 4, none⟩) hpw17).trans xpw17_4; have xpw17_5 := (hB0.cell (p := ⟨pw17, 5, none⟩) hpw17).trans xpw17_5; have xpw22_0 := (hB0.cell (p := ⟨pw22, 0, none⟩) hpw22).trans xpw22_0; have xpw22_1 := (hB0.cell (p := ⟨pw22, 1, none⟩) hpw22).trans xpw22_1; have xpw22_2 := (hB0.cell (p := ⟨pw22, 2, none⟩) hpw22).trans xpw22_2; have xpw22_3 := (hB0.cell (p := ⟨pw22, 3, none⟩) hpw22).trans xpw22_3; have xpw26_0 := (hB0.cell (p := ⟨pw26, 0, none⟩) hpw26).trans xpw26_0; have xpw26_1 := (hB0.cell (p := ⟨pw26, 1, none⟩) hpw26).trans xpw26_1; have xpw26_2 := (hB0.cell (p := ⟨pw26, 2, none⟩) hpw26).trans xpw26_2; have xpw26_3 := (hB0.cell (p := ⟨pw26, 3, none⟩) hpw26).trans xpw26_3; have xpw26_4 := (hB0.cell (p := ⟨pw26, 4, none⟩) hpw26).trans xpw26_4; have xpw26_5 := (hB0.cell (p := ⟨pw26, 5, none⟩) hpw26).trans xpw26_5; clear hb) | (go_at_call 21; refine (kit.eqAcceptorO x0 y0 s0 t0 _ _ (.slice yr15 L0.length qr15) (.slice yr16 M0.length qr16) L0 M0 x0 y0 s0 t0 _ _ (.slice ya L0.length qa) (.slice yb M0.length qb) L0 M0 _ (by omega) (by omega) (HOr15.out.later hB0) (HOr16.out.later hB0) (by omega) (by omega) hoI hoS).mono ?_; rintro e wz ⟨he, hb⟩; rw [decide_eq_true ⟨rfl, rfl, rfl, rfl, rfl, rfl⟩] at he; subst he; have hB9 := hB0.trans (hb.mono hB0.size); clear hb))
      all_goals
        go_wp2_with fail
        go_meet
        exact ⟨rfl, hB9⟩
    case rest =>
      obtain ⟨rfl, hb⟩ := hcut
      replace xpw1_0 := (hb.cell (p := ⟨pw1, 0, none⟩) hpw1).trans xpw1_0
      replace xpw1_1 := (hb.cell (p := ⟨pw1, 1, none⟩) hpw1).trans xpw1_1
      replace xpw1_2 := (hb.cell (p := ⟨pw1, 2, none⟩) hpw1).trans xpw1_2
      replace xpw1_3 := (hb.cell (p := ⟨pw1, 3, none⟩) hpw1).trans xpw1_3
      replace xpw1_4 := (hb.cell (p := ⟨pw1, 4, none⟩) hpw1).trans xpw1_4
      replace xpw1_5 := (hb.cell (p := ⟨pw1, 5, none⟩) hpw1).trans xpw1_5
      replace hpw1 := Nat.lt_of_lt_of_le hpw1 hb.size
      replace xpw2_0 := (hb.cell (p := ⟨pw2, 0, none⟩) hpw2).trans xpw2_0
      replace xpw2_1 := (hb.cell (p := ⟨pw2, 1, none⟩) hpw2).trans xpw2_1
      replace xpw2_2 := (hb.cell (p := ⟨pw2, 2, none⟩) hpw2).trans xpw2_2
      replace xpw2_3 := (hb.cell (p := ⟨pw2, 3, none⟩) hpw2).trans xpw2_3
      replace hpw2 := Nat.lt_of_lt_of_le hpw2 hb.size
      replace xp9_0 := (hb.cell (p := ⟨p9, 0, none⟩) hp9).trans xp9_0
      replace xp9_1 := (hb.cell (p := ⟨p9, 1, none⟩) hp9).trans xp9_1
      replace xp9_2 := (hb.cell (p := ⟨p9, 2, none⟩) hp9).trans xp9_2
      replace xp9_3 := (hb.cell (p := ⟨p9, 3, none⟩) hp9).trans xp9_3
      replace xp9_4 := (hb.cell (p := ⟨p9, 4, none⟩) hp9).trans xp9_4
      replace xp9_5 := (hb.cell (p := ⟨p9, 5, none⟩) hp9).trans xp9_5
      replace hp9 := Nat.lt_of_lt_of_le hp9 hb.size
      replace xpw17_0 := (hb.cell (p := ⟨pw17, 0, none⟩) hpw17).trans xpw17_0
      replace xpw17_1 := (hb.cell (p := ⟨pw17, 1, none⟩) hpw17).trans xpw17_1
      replace xpw17_2 := (hb.cell (p := ⟨pw17, 2, none⟩) hpw17).trans xpw17_2
      replace xpw17_3 := (hb.cell (p := ⟨pw17, 3, none⟩) hpw17).trans xpw17_3
      replace xpw17_4 := (hb.cell (p := ⟨pw17, 4, none⟩) hpw17).trans xpw17_4
      replace xpw17_5 := (hb.cell (p := ⟨pw17, 5, none⟩) hpw17).trans xpw17_5
      replace hpw17 := Nat.lt_of_lt_of_le hpw17 hb.size
      replace xpw22_0 := (hb.cell (p := ⟨pw22, 0, none⟩) hpw22).trans xpw22_0
      replace xpw22_1 := (hb.cell (p := ⟨pw22, 1, none⟩) hpw22).trans xpw22_1
      replace xpw22_2 := (hb.cell (p := ⟨pw22, 2, none⟩) hpw22).trans xpw22_2
      replace xpw22_3 := (hb.cell (p := ⟨pw22, 3, none⟩) hpw22).trans xpw22_3
      replace hpw22 := Nat.lt_of_lt_of_le hpw22 hb.size
      replace xpw26_0 := (hb.cell (p := ⟨pw26, 0, none⟩) hpw26).trans xpw26_0
      replace xpw26_1 := (hb.cell (p := ⟨pw26, 1, none⟩) hpw26).trans xpw26_1
      replace xpw26_2 := (hb.cell (p := ⟨pw26, 2, none⟩) hpw26).trans xpw26_2
      replace xpw26_3 := (hb.cell (p := ⟨pw26, 3, none⟩) hpw26).trans xpw26_3
      replace xpw26_4 := (hb.cell (p := ⟨pw26, 4, none⟩) hpw26).trans xpw26_4
      replace xpw26_5 := (hb.cell (p := ⟨pw26, 5, none⟩) hpw26).trans xpw26_5
      replace hpw26 := Nat.lt_of_lt_of_le hpw26 hb.size
      replace HB := Lib.hid (HB.out.trans (hb.mono hz))
      replace hz := Nat.le_trans hz hb.size
      have HZwc := Lib.hid hb.size
      replace HOr10 := Lib.hid (HOr10.out.later hb)
      replace HOr11 := Lib.hid (HOr11.out.later hb)
      replace HOr15 := Lib.hid (HOr15.out.later hb)
      replace HOr16 := Lib.hid (HOr16.out.later hb)
      replace HOr20 := Lib.hid (HOr20.out.later hb)
      replace HOr21 := Lib.hid (HOr21.out.later hb)
      replace HOr24 := Lib.hid (HOr24.out.later hb)
      replace HOr25 := Lib.hid (HOr25.out.later hb)
      replace HA0 := Lib.hid (HA0.out.later hb)
      replace HM0 := Lib.hid (HM0.out.later hb)
      replace HA2 := Lib.hid (HA2.out.later hb)
      replace HM2 := Lib.hid (HM2.out.later hb)
      clear hb
      obtain ⟨w28, rfl⟩ : ∃ W, W = wc := ⟨_, rfl⟩
      go_wp2_with fail
      go_upto_region 16 with (fail)
      go_cut [67] (fun b wx => b = .bool false ∧ Below w28.heap.size w28 wx)
      case first =>
        have hW0 := (Below.refl w28.heap.size w28).drew
        go_region_with (first | (go_at_call 25; (with_reducible refine (kit.toConfig x2 y2 a2 c2 L2 b2 d2 M2 _ (by omega) (by omega) (HA2.out.later hW0) (HM2.out.later hW0)).mono ?_); rintro e wa ⟨uI, uS, rfl, hoI, hoS, hb, hap⟩; obtain ⟨ya, qa, rfl⟩ := hoI.shape; obtain ⟨yb, qb, rfl⟩ := hoS.shape; have hB0 := hW0.trans (hb.mono hW0.size); have xpw1_0 := (hB0.cell (p := ⟨pw1, 0, none⟩) hpw1).trans xpw1_0; have xpw1_1 := (hB0.cell (p := ⟨pw1, 1, none⟩) hpw1).trans xpw1_1; have xpw1_2 := (hB0.cell (p := ⟨pw1, 2, none⟩) hpw1).trans xpw1_2; have xpw1_3 := (hB0.cell (p := ⟨pw1, 3, none⟩) hpw1).trans xpw1_3; have xpw1_4 := (hB0.cell (p := ⟨pw1, 4, none⟩) hpw1).trans xpw1_4; have xpw1_5 := (hB0.cell (p := ⟨pw1, 5, none⟩) hpw1).trans xpw1_5; have xpw2_0 := (hB0.cell (p := ⟨pw2, 0, none⟩) hpw2).trans xpw2_0; have xpw2_1 := (hB0.cell (p := ⟨pw2, 1, none⟩) hpw2).trans xpw2_1; have xpw2_2 := (hB0.cell (p := ⟨pw2, 2, none⟩) hpw2).trans xpw2_2; have xpw2_3 := (hB0.cell (p := ⟨pw2, 3, none⟩) hpw2).trans xpw2_3; have xp9_0 := (hB0.cell (p := ⟨p9, 0, none⟩) hp9).trans xp9_0; have xp9_1 := (hB0.cell (p := ⟨p9, 1, none⟩) hp9).trans xp9_1; have xp9_2 := (hB0.cell (p := ⟨p9, 2, none⟩) hp9).trans xp9_2; have xp9_3 := (hB0.cell (p := ⟨p9, 3, none⟩) hp9).trans xp9_3; have xp9_4 := (hB0.cell (p := ⟨p9, 4, none⟩) hp9).trans xp9_4; have xp9_5 := (hB0.cell (p := ⟨p9, 5, none⟩) hp9).trans xp9_5; have xpw17_0 := (hB0.cell (p := ⟨pw17, 0, none⟩) hpw17).trans xpw17_0; have xpw17_1 := (hB0.cell (p := ⟨pw17, 1, none⟩) hpw17).trans xpw17_1; have xpw17_2 := (hB0.cell (p := ⟨pw17, 2, none⟩) hpw17).trans xpw17_2; have xpw17_3 := (hB0.cell (p := ⟨pw17, 3, none⟩) hpw17).trans xpw17_3; have xpw17_4 := (hB0.cell (p := ⟨pw17, 4, none⟩) hpw17).trans xpw17_4; have xpw17_5 := (hB0.cell (p := ⟨pw17, 5, none⟩) hpw17).trans xpw17_5; have xpw22_0 := (hB0.cell (p := ⟨pw22, 0, none⟩) hpw22).trans xpw22_0; have xpw22_1 := (hB0.cell (p := ⟨pw22, 1, none⟩) hpw22).trans xpw22_1; have xpw22_2 := (hB0.cell (p := ⟨pw22, 2, none⟩) hpw22).trans xpw22_2; have xpw22_3 := (hB0.cell (p := ⟨pw22, 3, none⟩) hpw22).trans xpw22_3; have xpw26_0 := (hB0.cell (p := ⟨pw26, 0, none⟩) hpw26).trans xpw26_0; have xpw26_1 := (hB0.cell (p := ⟨pw26, 1, none⟩) hpw26).trans xpw26_1; have xpw26_2 := (hB0.cell (p := ⟨pw26, 2, none⟩) hpw26).trans xpw26_2; have xpw26_3 := (hB0.cell (p := ⟨pw26, 3, none⟩) hpw26).trans xpw26_3; have xpw26_4 := (hB0.cell (p := ⟨pw26, 4, none⟩) hpw26).trans xpw26_4; have xpw26_5 := (hB0.cell (p := ⟨pw26, 5, none⟩) hpw26).trans xpw26_5; clear hb) | (go_at_call 26; refine (kit.eqConfigO x2 y2 _ _ (.slice yr20 L2.length qr20) (.slice yr21 M2.length qr21) L2 M2 x2 y2 _ _ (.slice ya L2.length qa) (.slice yb M2.length qb) L2 M2 _ (by omega) (by omega) (HOr20.out.later hB0) (HOr21.out.later hB0) (by omega) (by omega) hoI hoS).mono ?_; rintro e wz ⟨he, hb⟩; rw [decide_eq_true ⟨rfl, rfl, rfl, rfl⟩] at he; subst he; have hB9 := hB0.trans (hb.mono hB0.size); clear hb))
        all_goals
          go_wp2_with fail
          go_meet
          exact ⟨rfl, hB9⟩
      case rest =>
        obtain ⟨rfl, hb⟩ := hcut
        replace xpw1_0 := (hb.cell (p := ⟨pw1, 0, none⟩) hpw1).trans xpw1_0
        replace xpw1_1 := (hb.cell (p := ⟨pw1, 1, none⟩) hpw1).trans xpw1_1
        replace xpw1_2 := (hb.cell (p := ⟨pw1, 2, none⟩) hpw1).trans xpw1_2
        replace xpw1_3 := (hb.cell (p := ⟨pw1, 3, none⟩) hpw1).trans xpw1_3
        replace xpw1_4 := (hb.cell (p := ⟨pw1, 4, none⟩) hpw1).trans xpw1_4
        replace xpw1_5 := (hb.cell (p := ⟨pw1, 5, none⟩) hpw1).trans xpw1_5
        replace hpw1 := Nat.lt_of_lt_of_le hpw1 hb.size
        replace xpw2_0 := (hb.cell (p := ⟨pw2, 0, none⟩) hpw2).trans xpw2_0
        replace xpw2_1 := (hb.cell (p := ⟨pw2, 1, none⟩) hpw2).trans xpw2_1
        replace xpw2_2 := (hb.cell (p := ⟨pw2, 2, none⟩) hpw2).trans xpw2_2
        replace xpw2_3 := (hb.cell (p := ⟨pw2, 3, none⟩) hpw2).trans xpw2_3
        replace hpw2 := Nat.lt_of_lt_of_le hpw2 hb.size
        replace xp9_0 := (hb.cell (p := ⟨p9, 0, none⟩) hp9).trans xp9_0
        replace xp9_1 := (hb.cell (p := ⟨p9, 1, none⟩) hp9).trans xp9_1
        replace xp9_2 := (hb.cell (p := ⟨p9, 2, none⟩) hp9).trans xp9_2
        replace xp9_3 := (hb.cell (p := ⟨p9, 3, none⟩) hp9).trans xp9_3
        replace xp9_4 := (hb.cell (p := ⟨p9, 4, none⟩) hp9).trans xp9_4
        replace xp9_5 := (hb.cell (p := ⟨p9, 5, none⟩) hp9).trans xp9_5
        replace hp9 := Nat.lt_of_lt_of_le hp9 hb.size
        replace xpw17_0 := (hb.cell (p := ⟨pw17, 0, none⟩) hpw17).trans xpw17_0
        replace xpw17_1 := (hb.cell (p := ⟨pw17, 1, none⟩) hpw17).trans xpw17_1
        replace xpw17_2 := (hb.cell (p := ⟨pw17, 2, none⟩) hpw17).trans xpw17_2
        replace xpw17_3 := (hb.cell (p := ⟨pw17, 3, none⟩) hpw17).trans xpw17_3
        replace xpw17_4 := (hb.cell (p := ⟨pw17, 4, none⟩) hpw17).trans xpw17_4
        replace xpw17_5 := (hb.cell (p := ⟨pw17, 5, none⟩) hpw17).trans xpw17_5
        replace hpw17 := Nat.lt_of_lt_of_le hpw17 hb.size
        replace xpw22_0 := (hb.cell (p := ⟨pw22, 0, none⟩) hpw22).trans xpw22_0
        replace xpw22_1 := (hb.cell (p := ⟨pw22, 1, none⟩) hpw22).trans xpw22_1
        replace xpw22_2 := (hb.cell (p := ⟨pw22, 2, none⟩) hpw22).trans xpw22_2
        replace xpw22_3 := (hb.cell (p := ⟨pw22, 3, none⟩) hpw22).trans xpw22_3
        replace hpw22 := Nat.lt_of_lt_of_le hpw22 hb.size
        replace xpw26_0 := (hb.cell (p := ⟨pw26, 0, none⟩) hpw26).trans xpw26_0
        replace xpw26_1 := (hb.cell (p := ⟨pw26, 1, none⟩) hpw26).trans xpw26_1
        replace xpw26_2 := (hb.cell (p := ⟨pw26, 2, none⟩) hpw26).trans xpw26_2
        replace xpw26_3 := (hb.cell (p := ⟨pw26, 3, none⟩) hpw26).trans xpw26_3
        replace xpw26_4 := (hb.cell (p := ⟨pw26, 4, none⟩) hpw26).trans xpw26_4
        replace xpw26_5 := (hb.cell (p := ⟨pw26, 5, none⟩) hpw26).trans xpw26_5
        replace hpw26 := Nat.lt_of_lt_of_le hpw26 hb.size
        replace HB := Lib.hid (HB.out.trans (hb.mono hz))
        replace hz := Nat.le_trans hz hb.size
        have HZwc := Lib.hid hb.size
        replace HOr10 := Lib.hid (HOr10.out.later hb)
        replace HOr11 := Lib.hid (HOr11.out.later hb)
        replace HOr15 := Lib.hid (HOr15.out.later hb)
        replace HOr16 := Lib.hid (HOr16.out.later hb)
        replace HOr20 := Lib.hid (HOr20.out.later hb)
        replace HOr21 := Lib.hid (HOr21.out.later hb)
        replace HOr24 := Lib.hid (HOr24.out.later hb)
        replace HOr25 := Lib.hid (HOr25.out.later hb)
        replace HA0 := Lib.hid (HA0.out.later hb)
        replace HM0 := Lib.hid (HM0.out.later hb)
        replace HA2 := Lib.hid (HA2.out.later hb)
        replace HM2 := Lib.hid (HM2.out.later hb)
        clear hb
        obtain ⟨w29, rfl⟩ : ∃ W, W = wc := ⟨_, rfl⟩
        go_wp2_with fail
        refine (kit.markAcceptor x0 y0 s0 t0 _ _ (.slice yr15 L0.length qr15) (.slice yr16 M0.length qr16) L0 M0 w29 (by omega) (by omega) HOr15.out HOr16.out HPr15.out 1 rfl).mono ?_
        rintro e w30 ⟨rfl, hoI, hoS, wa, wb, hA, hg1, hg2⟩
        have hap1 := HPr15.out
        have hb : Below w.heap.size w29 w30 := ((hA.mono hz).grown hg1 (Nat.le_trans hz hA.size) (fun g h => by have := HUr15.out g h; have := Epw1.out; have := Sw1.out; have := HZw1.out; have := Epw2.out; have := Sw2.out; have := HZw2.out; have := HZw3.out; have := HZw4.out; have := HZwc.out; have := Ep9.out; have := Sp9.out; have := HZw13.out; have := Epw17.out; have := Sw17.out; have := HZw17.out; have := HZw18.out; have := Epw22.out; have := Sw22.out; have := HZw22.out; have := HZw23.out; have := Epw26.out; have := Sw26.out; have := HZw26.out; have := HZw27.out; have := HZwc.out; have := HZwc.out; omega)).grown hg2 (Nat.le_trans hz (Nat.le_trans hA.size hg1.size)) (fun g h => by have := HUr16.out g h; have := Epw1.out; have := Sw1.out; have := HZw1.out; have := Epw2.out; have := Sw2.out; have := HZw2.out; have := HZw3.out; have := HZw4.out; have := HZwc.out; have := Ep9.out; have := Sp9.out; have := HZw13.out; have := Epw17.out; have := Sw17.out; have := HZw17.out; have := HZw18.out; have := Epw22.out; have := Sw22.out; have := HZw22.out; have := HZw23.out; have := Epw26.out; have := Sw26.out; have := HZw26.out; have := HZw27.out; have := HZwc.out; have := HZwc.out; omega)
        have hs : w29.heap.size ≤ w30.heap.size := hb.size
        have hk := kit.still hA hg1 hg2 (b := pw1) hpw1 (fun e => by have := HUr15.out _ e; have := Epw1.out; have := Sw1.out; have := HZw1.out; have := Epw2.out; have := Sw2.out; have := HZw2.out; have := HZw3.out; have := HZw4.out; have := HZwc.out; have := Ep9.out; have := Sp9.out; have := HZw13.out; have := Epw17.out; have := Sw17.out; have := HZw17.out; have := HZw18.out; have := Epw22.out; have := Sw22.out; have := HZw22.out; have := HZw23.out; have := Epw26.out; have := Sw26.out; have := HZw26.out; have := HZw27.out; have := HZwc.out; have := HZwc.out; omega) (fun e => by have := HUr16.out _ e; have := Epw1.out; have := Sw1.out; have := HZw1.out; have := Epw2.out; have := Sw2.out; have := HZw2.out; have := HZw3.out; have := HZw4.out; have := HZwc.out; have := Ep9.out; have := Sp9.out; have := HZw13.out; have := Epw17.out; have := Sw17.out; have := HZw17.out; have := HZw18.out; have := Epw22.out; have := Sw22.out; have := HZw22.out; have := HZw23.out; have := Epw26.out; have := Sw26.out; have := HZw26.out; have := HZw27.out; have := HZwc.out; have := HZwc.out; omega)
        replace xpw1_0 := (World.cell?_of_block (a := ⟨pw1, 0, none⟩) hk).trans xpw1_0
        replace xpw1_1 := (World.cell?_of_block (a := ⟨pw1, 1, none⟩) hk).trans xpw1_1
        replace xpw1_2 := (World.cell?_of_block (a := ⟨pw1, 2, none⟩) hk).trans xpw1_2
        replace xpw1_3 := (World.cell?_of_block (a := ⟨pw1, 3, none⟩) hk).trans xpw1_3
        replace xpw1_4 := (World.cell?_of_block (a := ⟨pw1, 4, none⟩) hk).trans xpw1_4
        replace xpw1_5 := (World.cell?_of_block (a := ⟨pw1, 5, none⟩) hk).trans xpw1_5
        clear hk
        replace hpw1 := Nat.lt_of_lt_of_le hpw1 hs
        have hk := kit.still hA hg1 hg2 (b := pw2) hpw2 (fun e => by have := HUr15.out _ e; have := Epw1.out; have := Sw1.out; have := HZw1.out; have := Epw2.out; have := Sw2.out; have := HZw2.out; have := HZw3.out; have := HZw4.out; have := HZwc.out; have := Ep9.out; have := Sp9.out; have := HZw13.out; have := Epw17.out; have := Sw17.out; have := HZw17.out; have := HZw18.out; have := Epw22.out; have := Sw22.out; have := HZw22.out; have := HZw23.out; have := Epw26.out; have := Sw26.out; have := HZw26.out; have := HZw27.out; have := HZwc.out; have := HZwc.out; omega) (fun e => by have := HUr16.out _ e; have := Epw1.out; have := Sw1.out; have := HZw1.out; have := Epw2.out; have := Sw2.out; have := HZw2.out; have := HZw3.out; have := HZw4.out; have := HZwc.out; have := Ep9.out; have := Sp9.out; have := HZw13.out; have := Epw17.out; have := Sw17.out; have := HZw17.out; have := HZw18.out; have := Epw22.out; have := Sw22.out; have := HZw22.out; have := HZw23.out; have := Epw26.out; have := Sw26.out; have := HZw26.out; have := HZw27.out; have := HZwc.out; have := HZwc.out; omega)
        replace xpw2_0 := (World.cell?_of_block (a := ⟨pw2, 0, none⟩) hk).trans xpw2_0
        replace xpw2_1 := (World.cell?_of_block (a := ⟨pw2, 1, none⟩) hk).trans xpw2_1
        replace xpw2_2 := (World.cell?_of_block (a := ⟨pw2, 2, none⟩) hk).trans xpw2_2
        replace xpw2_3 := (World.cell?_of_block (a := ⟨pw2, 3, none⟩) hk).trans xpw2_3
        clear hk
        replace hpw2 := Nat.lt_of_lt_of_le hpw2 hs
        have hk := kit.still hA hg1 hg2 (b := p9) hp9 (fun e => by have := HUr15.out _ e; have := Epw1.out; have := Sw1.out; have := HZw1.out; have := Epw2.out; have := Sw2.out; have := HZw2.out; have := HZw3.out; have := HZw4.out; have := HZwc.out; have := Ep9.out; have := Sp9.out; have := HZw13.out; have := Epw17.out; have := Sw17.out; have := HZw17.out; have := HZw18.out; have := Epw22.out; have := Sw22.out; have := HZw22.out; have := HZw23.out; have := Epw26.out; have := Sw26.out; have := HZw26.out; have := HZw27.out; have := HZwc.out; have := HZwc.out; omega) (fun e => by have := HUr16.out _ e; have := Epw1.out; have := Sw1.out; have := HZw1.out; have := Epw2.out; have := Sw2.out; have := HZw2.out; have := HZw3.out; have := HZw4.out; have := HZwc.out; have := Ep9.out; have := Sp9.out; have := HZw13.out; have := Epw17.out; have := Sw17.out; have := HZw17.out; have := HZw18.out; have := Epw22.out; have := Sw22.out; have := HZw22.out; have := HZw23.out; have := Epw26.out; have := Sw26.out; have := HZw26.out; have := HZw27.out; have := HZwc.out; have := HZwc.out; omega)
        replace xp9_0 := (World.cell?_of_block (a := ⟨p9, 0, none⟩) hk).trans xp9_0
        replace xp9_1 := (World.cell?_of_block (a := ⟨p9, 1, none⟩) hk).trans xp9_1
        replace xp9_2 := (World.cell?_of_block (a := ⟨p9, 2, none⟩) hk).trans xp9_2
        replace xp9_3 := (World.cell?_of_block (a := ⟨p9, 3, none⟩) hk).trans xp9_3
        replace xp9_4 := (World.cell?_of_block (a := ⟨p9, 4, none⟩) hk).trans xp9_4
        replace xp9_5 := (World.cell?_of_block (a := ⟨p9, 5, none⟩) hk).trans xp9_5
        clear hk
        replace hp9 := Nat.lt_of_lt_of_le hp9 hs
        have hk := kit.still hA hg1 hg2 (b := pw17) hpw17 (fun e => by have := HUr15.out _ e; have := Epw1.out; have := Sw1.out; have := HZw1.out; have := Epw2.out; have := Sw2.out; have := HZw2.out; have := HZw3.out; have := HZw4.out; have := HZwc.out; have := Ep9.out; have := Sp9.out; have := HZw13.out; have := Epw17.out; have := Sw17.out; have := HZw17.out; have := HZw18.out; have := Epw22.out; have := Sw22.out; have := HZw22.out; have := HZw23.out; have := Epw26.out; have := Sw26.out; have := HZw26.out; have := HZw27.out; have := HZwc.out; have := HZwc.out; omega) (fun e => by have := HUr16.out _ e; have := Epw1.out; have := Sw1.out; have := HZw1.out; have := Epw2.out; have := Sw2.out; have := HZw2.out; have := HZw3.out; have := HZw4.out; have := HZwc.out; have := Ep9.out; have := Sp9.out; have := HZw13.out; have := Epw17.out; have := Sw17.out; have := HZw17.out; have := HZw18.out; have := Epw22.out; have := Sw22.out; have := HZw22.out; have := HZw23.out; have := Epw26.out; have := Sw26.out; have := HZw26.out; have := HZw27.out; have := HZwc.out; have := HZwc.out; omega)
        replace xpw17_0 := (World.cell?_of_block (a := ⟨pw17, 0, none⟩) hk).trans xpw17_0
        replace xpw17_1 := (World.cell?_of_block (a := ⟨pw17, 1, none⟩) hk).trans xpw17_1
        replace xpw17_2 := (World.cell?_of_block (a := ⟨pw17, 2, none⟩) hk).trans xpw17_2
        replace xpw17_3 := (World.cell?_of_block (a := ⟨pw17, 3, none⟩) hk).trans xpw17_3
        replace xpw17_4 := (World.cell?_of_block (a := ⟨pw17, 4, none⟩) hk).trans xpw17_4
        replace xpw17_5 := (World.cell?_of_block (a := ⟨pw17, 5, none⟩) hk).trans xpw17_5
        clear hk
        replace hpw17 := Nat.lt_of_lt_of_le hpw17 hs
        have hk := kit.still hA hg1 hg2 (b := pw22) hpw22 (fun e => by have := HUr15.out _ e; have := Epw1.out; have := Sw1.out; have := HZw1.out; have := Epw2.out; have := Sw2.out; have := HZw2.out; have := HZw3.out; have := HZw4.out; have := HZwc.out; have := Ep9.out; have := Sp9.out; have := HZw13.out; have := Epw17.out; have := Sw17.out; have := HZw17.out; have := HZw18.out; have := Epw22.out; have := Sw22.out; have := HZw22.out; have := HZw23.out; have := Epw26.out; have := Sw26.out; have := HZw26.out; have := HZw27.out; have := HZwc.out; have := HZwc.out; omega) (fun e => by have := HUr16.out _ e; have := Epw1.out; have := Sw1.out; have := HZw1.out; have := Epw2.out; have := Sw2.out; have := HZw2.out; have := HZw3.out; have := HZw4.out; have := HZwc.out; have := Ep9.out; have := Sp9.out; have := HZw13.out; have := Epw17.out; have := Sw17.out; have := HZw17.out; have := HZw18.out; have := Epw22.out; have := Sw22.out; have := HZw22.out; have := HZw23.out; have := Epw26.out; have := Sw26.out; have := HZw26.out; have := HZw27.out; have := HZwc.out; have := HZwc.out; omega)
        replace xpw22_0 := (World.cell?_of_block (a := ⟨pw22, 0, none⟩) hk).trans xpw22_0
        replace xpw22_1 := (World.cell?_of_block (a := ⟨pw22, 1, none⟩) hk).trans xpw22_1
        replace xpw22_2 := (World.cell?_of_block (a := ⟨pw22, 2, none⟩) hk).trans xpw22_2
        replace xpw22_3 := (World.cell?_of_block (a := ⟨pw22, 3, none⟩) hk).trans xpw22_3
        clear hk
        replace hpw22 := Nat.lt_of_lt_of_le hpw22 hs
        have hk := kit.still hA hg1 hg2 (b := pw26) hpw26 (fun e => by have := HUr15.out _ e; have := Epw1.out; have := Sw1.out; have := HZw1.out; have := Epw2.out; have := Sw2.out; have := HZw2.out; have := HZw3.out; have := HZw4.out; have := HZwc.out; have := Ep9.out; have := Sp9.out; have := HZw13.out; have := Epw17.out; have := Sw17.out; have := HZw17.out; have := HZw18.out; have := Epw22.out; have := Sw22.out; have := HZw22.out; have := HZw23.out; have := Epw26.out; have := Sw26.out; have := HZw26.out; have := HZw27.out; have := HZwc.out; have := HZwc.out; omega) (fun e => by have := HUr16.out _ e; have := Epw1.out; have := Sw1.out; have := HZw1.out; have := Epw2.out; have := Sw2.out; have := HZw2.out; have := HZw3.out; have := HZw4.out; have := HZwc.out; have := Ep9.out; have := Sp9.out; have := HZw13.out; have := Epw17.out; have := Sw17.out; have := HZw17.out; have := HZw18.out; have := Epw22.out; have := Sw22.out; have := HZw22.out; have := HZw23.out; have := Epw26.out; have := Sw26.out; have := HZw26.out; have := HZw27.out; have := HZwc.out; have := HZwc.out; omega)
        replace xpw26_0 := (World.cell?_of_block (a := ⟨pw26, 0, none⟩) hk).trans xpw26_0
        replace xpw26_1 := (World.cell?_of_block (a := ⟨pw26, 1, none⟩) hk).trans xpw26_1
        replace xpw26_2 := (World.cell?_of_block (a := ⟨pw26, 2, none⟩) hk).trans xpw26_2
        replace xpw26_3 := (World.cell?_of_block (a := ⟨pw26, 3, none⟩) hk).trans xpw26_3
        replace xpw26_4 := (World.cell?_of_block (a := ⟨pw26, 4, none⟩) hk).trans xpw26_4
        replace xpw26_5 := (World.cell?_of_block (a := ⟨pw26, 5, none⟩) hk).trans xpw26_5
        clear hk
        replace hpw26 := Nat.lt_of_lt_of_le hpw26 hs
        replace HOr10 := Lib.hid (((HOr10.out.later hA).marked hg1 (fun g a c => by have h3 := HUr15.out g a; have h4 := HUr10.out g c; have := Epw1.out; have := Sw1.out; have := HZw1.out; have := Epw2.out; have := Sw2.out; have := HZw2.out; have := HZw3.out; have := HZw4.out; have := HZwc.out; have := Ep9.out; have := Sp9.out; have := HZw13.out; have := Epw17.out; have := Sw17.out; have := HZw17.out; have := HZw18.out; have := Epw22.out; have := Sw22.out; have := HZw22.out; have := HZw23.out; have := Epw26.out; have := Sw26.out; have := HZw26.out; have := HZw27.out; have := HZwc.out; have := HZwc.out; omega)).marked hg2 (fun g a c => by have h3 := HUr16.out g a; have h4 := HUr10.out g c; have := Epw1.out; have := Sw1.out; have := HZw1.out; have := Epw2.out; have := Sw2.out; have := HZw2.out; have := HZw3.out; have := HZw4.out; have := HZwc.out; have := Ep9.out; have := Sp9.out; have := HZw13.out; have := Epw17.out; have := Sw17.out; have := HZw17.out; have := HZw18.out; have := Epw22.out; have := Sw22.out; have := HZw22.out; have := HZw23.out; have := Epw26.out; have := Sw26.out; have := HZw26.out; have := HZw27.out; have := HZwc.out; have := HZwc.out; omega))
        replace HOr11 := Lib.hid (((HOr11.out.later hA).marked hg1 (fun g a c => by have h3 := HUr15.out g a; have h4 := HUr11.out g c; have := Epw1.out; have := Sw1.out; have := HZw1.out; have := Epw2.out; have := Sw2.out; have := HZw2.out; have := HZw3.out; have := HZw4.out; have := HZwc.out; have := Ep9.out; have := Sp9.out; have := HZw13.out; have := Epw17.out; have := Sw17.out; have := HZw17.out; have := HZw18.out; have := Epw22.out; have := Sw22.out; have := HZw22.out; have := HZw23.out; have := Epw26.out; have := Sw26.out; have := HZw26.out; have := HZw27.out; have := HZwc.out; have := HZwc.out; omega)).marked hg2 (fun g a c => by have h3 := HUr16.out g a; have h4 := HUr11.out g c; have := Epw1.out; have := Sw1.out; have := HZw1.out; have := Epw2.out; have := Sw2.out; have := HZw2.out; have := HZw3.out; have := HZw4.out; have := HZwc.out; have := Ep9.out; have := Sp9.out; have := HZw13.out; have := Epw17.out; have := Sw17.out; have := HZw17.out; have := HZw18.out; have := Epw22.out; have := Sw22.out; have := HZw22.out; have := HZw23.out; have := Epw26.out; have := Sw26.out; have := HZw26.out; have := HZw27.out; have := HZwc.out; have := HZwc.out; omega))
        replace HOr20 := Lib.hid (((HOr20.out.later hA).marked hg1 (fun g a c => by have h3 := HUr15.out g a; have h4 := HUr20.out g c; have := Epw1.out; have := Sw1.out; have := HZw1.out; have := Epw2.out; have := Sw2.out; have := HZw2.out; have := HZw3.out; have := HZw4.out; have := HZwc.out; have := Ep9.out; have := Sp9.out; have := HZw13.out; have := Epw17.out; have := Sw17.out; have := HZw17.out; have := HZw18.out; have := Epw22.out; have := Sw22.out; have := HZw22.out; have := HZw23.out; have := Epw26.out; have := Sw26.out; have := HZw26.out; have := HZw27.out; have := HZwc.out; have := HZwc.out; omega)).marked hg2 (fun g a c => by have h3 := HUr16.out g a; have h4 := HUr20.out g c; have := Epw1.out; have := Sw1.out; have := HZw1.out; have := Epw2.out; have := Sw2.out; have := HZw2.out; have := HZw3.out; have := HZw4.out; have := HZwc.out; have := Ep9.out; have := Sp9.out; have := HZw13.out; have := Epw17.out; have := Sw17.out; have := HZw17.out; have := HZw18.out; have := Epw22.out; have := Sw22.out; have := HZw22.out; have := HZw23.out; have := Epw26.out; have := Sw26.out; have := HZw26.out; have := HZw27.out; have := HZwc.out; have := HZwc.out; omega))
        replace HOr21 := Lib.hid (((HOr21.out.later hA).marked hg1 (fun g a c => by have h3 := HUr15.out g a; have h4 := HUr21.out g c; have := Epw1.out; have := Sw1.out; have := HZw1.out; have := Epw2.out; have := Sw2.out; have := HZw2.out; have := HZw3.out; have := HZw4.out; have := HZwc.out; have := Ep9.out; have := Sp9.out; have := HZw13.out; have := Epw17.out; have := Sw17.out; have := HZw17.out; have := HZw18.out; have := Epw22.out; have := Sw22.out; have := HZw22.out; have := HZw23.out; have := Epw26.out; have := Sw26.out; have := HZw26.out; have := HZw27.out; have := HZwc.out; have := HZwc.out; omega)).marked hg2 (fun g a c => by have h3 := HUr16.out g a; have h4 := HUr21.out g c; have := Epw1.out; have := Sw1.out; have := HZw1.out; have := Epw2.out; have := Sw2.out; have := HZw2.out; have := HZw3.out; have := HZw4.out; have := HZwc.out; have := Ep9.out; have := Sp9.out; have := HZw13.out; have := Epw17.out; have := Sw17.out; have := HZw17.out; have := HZw18.out; have := Epw22.out; have := Sw22.out; have := HZw22.out; have := HZw23.out; have := Epw26.out; have := Sw26.out; have := HZw26.out; have := HZw27.out; have := HZwc.out; have := HZwc.out; omega))
        replace HOr24 := Lib.hid (((HOr24.out.later hA).marked hg1 (fun g a c => by have h3 := HUr15.out g a; have h4 := HUr24.out g c; have := Epw1.out; have := Sw1.out; have := HZw1.out; have := Epw2.out; have := Sw2.out; have := HZw2.out; have := HZw3.out; have := HZw4.out; have := HZwc.out; have := Ep9.out; have := Sp9.out; have := HZw13.out; have := Epw17.out; have := Sw17.out; have := HZw17.out; have := HZw18.out; have := Epw22.out; have := Sw22.out; have := HZw22.out; have := HZw23.out; have := Epw26.out; have := Sw26.out; have := HZw26.out; have := HZw27.out; have := HZwc.out; have := HZwc.out; omega)).marked hg2 (fun g a c => by have h3 := HUr16.out g a; have h4 := HUr24.out g c; have := Epw1.out; have := Sw1.out; have := HZw1.out; have := Epw2.out; have := Sw2.out; have := HZw2.out; have := HZw3.out; have := HZw4.out; have := HZwc.out; have := Ep9.out; have := Sp9.out; have := HZw13.out; have := Epw17.out; have := Sw17.out; have := HZw17.out; have := HZw18.out; have := Epw22.out; have := Sw22.out; have := HZw22.out; have := HZw23.out; have := Epw26.out; have := Sw26.out; have := HZw26.out; have := HZw27.out; have := HZwc.out; have := HZwc.out; omega))
        replace HOr25 := Lib.hid (((HOr25.out.later hA).marked hg1 (fun g a c => by have h3 := HUr15.out g a; have h4 := HUr25.out g c; have := Epw1.out; have := Sw1.out; have := HZw1.out; have := Epw2.out; have := Sw2.out; have := HZw2.out; have := HZw3.out; have := HZw4.out; have := HZwc.out; have := Ep9.out; have := Sp9.out; have := HZw13.out; have := Epw17.out; have := Sw17.out; have := HZw17.out; have := HZw18.out; have := Epw22.out; have := Sw22.out; have := HZw22.out; have := HZw23.out; have := Epw26.out; have := Sw26.out; have := HZw26.out; have := HZw27.out; have := HZwc.out; have := HZwc.out; omega)).marked hg2 (fun g a c => by have h3 := HUr16.out g a; have h4 := HUr25.out g c; have := Epw1.out; have := Sw1.out; have := HZw1.out; have := Epw2.out; have := Sw2.out; have := HZw2.out; have := HZw3.out; have := HZw4.out; have := HZwc.out; have := Ep9.out; have := Sp9.out; have := HZw13.out; have := Epw17.out; have := Sw17.out; have := HZw17.out; have := HZw18.out; have := Epw22.out; have := Sw22.out; have := HZw22.out; have := HZw23.out; have := Epw26.out; have := Sw26.out; have := HZw26.out; have := HZw27.out; have := HZwc.out; have := HZwc.out; omega))
        replace HA0 := Lib.hid (HA0.out.below hb (HA0'.out))
        replace HM0 := Lib.hid (HM0.out.below hb (HM0'.out))
        replace HA2 := Lib.hid (HA2.out.below hb (HA2'.out))
        replace HM2 := Lib.hid (HM2.out.below hb (HM2'.out))
        replace HB := Lib.hid (HB.out.trans hb)
        replace hz := Nat.le_trans hz hs
        have HZw30 := Lib.hid hs
        replace HOr15 := Lib.hid hoI
        replace HOr16 := Lib.hid hoS
        clear hap1 hb hs hA hg1 hg2 hoI hoS
        go_wp2_with fail
        refine (kit.markConfigK x2 y2 _ _ (.slice yr20 L2.length qr20) (.slice yr21 M2.length qr21) L2 M2 w30 (by omega) (by omega) HOr20.out HOr21.out HPr20.out (1 + (L0.length : Int) + (M0.length : Int)) (by omega) (by omega)).mono ?_
        rintro e w31 ⟨rfl, hoI, hoS, wa, wb, hA, hg1, hg2⟩
        have hap1 := HPr20.out
        have hb : Below w.heap.size w30 w31 := ((hA.mono hz).grown hg1 (Nat.le_trans hz hA.size) (fun g h => by have := HUr20.out g h; have := Epw1.out; have := Sw1.out; have := HZw1.out; have := Epw2.out; have := Sw2.out; have := HZw2.out; have := HZw3.out; have := HZw4.out; have := HZwc.out; have := Ep9.out; have := Sp9.out; have := HZw13.out; have := Epw17.out; have := Sw17.out; have := HZw17.out; have := HZw18.out; have := Epw22.out; have := Sw22.out; have := HZw22.out; have := HZw23.out; have := Epw26.out; have := Sw26.out; have := HZw26.out; have := HZw27.out; have := HZwc.out; have := HZwc.out; have := HZw30.out; omega)).grown hg2 (Nat.le_trans hz (Nat.le_trans hA.size hg1.size)) (fun g h => by have := HUr21.out g h; have := Epw1.out; have := Sw1.out; have := HZw1.out; have := Epw2.out; have := Sw2.out; have := HZw2.out; have := HZw3.out; have := HZw4.out; have := HZwc.out; have := Ep9.out; have := Sp9.out; have := HZw13.out; have := Epw17.out; have := Sw17.out; have := HZw17.out; have := HZw18.out; have := Epw22.out; have := Sw22.out; have := HZw22.out; have := HZw23.out; have := Epw26.out; have := Sw26.out; have := HZw26.out; have := HZw27.out; have := HZwc.out; have := HZwc.out; have := HZw30.out; omega)
        have hs : w30.heap.size ≤ w31.heap.size := hb.size
        have hk := kit.still hA hg1 hg2 (b := pw1) hpw1 (fun e => by have := HUr20.out _ e; have := Epw1.out; have := Sw1.out; have := HZw1.out; have := Epw2.out; have := Sw2.out; have := HZw2.out; have := HZw3.out; have := HZw4.out; have := HZwc.out; have := Ep9.out; have := Sp9.out; have := HZw13.out; have := Epw17.out; have := Sw17.out; have := HZw17.out; have := HZw18.out; have := Epw22.out; have := Sw22.out; have := HZw22.out; have := HZw23.out; have := Epw26.out; have := Sw26.out; have := HZw26.out; have := HZw27.out; have := HZwc.out; have := HZwc.out; have := HZw30.out; omega) (fun e => by have := HUr21.out _ e; have := Epw1.out; have := Sw1.out; have := HZw1.out; have := Epw2.out; have := Sw2.out; have := HZw2.out; have := HZw3.out; have := HZw4.out; have := HZwc.out; have := Ep9.out; have := Sp9.out; have := HZw13.out; have := Epw17.out; have := Sw17.out; have := HZw17.out; have := HZw18.out; have := Epw22.out; have := Sw22.out; have := HZw22.out; have := HZw23.out; have := Epw26.out; have := Sw26.out; have := HZw26.out; have := HZw27.out; have := HZwc.out; have := HZwc.out; have := HZw30.out; omega)
        replace xpw1_0 := (World.cell?_of_block (a := ⟨pw1, 0, none⟩) hk).trans xpw1_0
        replace xpw1_1 := (World.cell?_of_block (a := ⟨pw1, 1, none⟩) hk).trans xpw1_1
        replace xpw1_2 := (World.cell?_of_block (a := ⟨pw1, 2, none⟩) hk).trans xpw1_2
        replace xpw1_3 := (World.cell?_of_block (a := ⟨pw1, 3, none⟩) hk).trans xpw1_3
        replace xpw1_4 := (World.cell?_of_block (a := ⟨pw1, 4, none⟩) hk).trans xpw1_4
        replace xpw1_5 := (World.cell?_of_block (a := ⟨pw1, 5, none⟩) hk).trans xpw1_5
        clear hk
        replace hpw1 := Nat.lt_of_lt_of_le hpw1 hs
        have hk := kit.still hA hg1 hg2 (b := pw2) hpw2 (fun e => by have := HUr20.out _ e; have := Epw1.out; have := Sw1.out; have := HZw1.out; have := Epw2.out; have := Sw2.out; have := HZw2.out; have := HZw3.out; have := HZw4.out; have := HZwc.out; have := Ep9.out; have := Sp9.out; have := HZw13.out; have := Epw17.out; have := Sw17.out; have := HZw17.out; have := HZw18.out; have := Epw22.out; have := Sw22.out; have := HZw22.out; have := HZw23.out; have := Epw26.out; have := Sw26.out; have := HZw26.out; have := HZw27.out; have := HZwc.out; have := HZwc.out; have := HZw30.out; omega) (fun e => by have := HUr21.out _ e; have := Epw1.out; have := Sw1.out; have := HZw1.out; have := Epw2.out; have := Sw2.out; have := HZw2.out; have := HZw3.out; have := HZw4.out; have := HZwc.out; have := Ep9.out; have := Sp9.out; have := HZw13.out; have := Epw17.out; have := Sw17.out; have := HZw17.out; have := HZw18.out; have := Epw22.out; have := Sw22.out; have := HZw22.out; have := HZw23.out; have := Epw26.out; have := Sw26.out; have := HZw26.out; have := HZw27.out; have := HZwc.out; have := HZwc.out; have := HZw30.out; omega)
        replace xpw2_0 := (World.cell?_of_block (a := ⟨pw2, 0, none⟩) hk).trans xpw2_0
        replace xpw2_1 := (World.cell?_of_block (a := ⟨pw2, 1, none⟩) hk).trans xpw2_1
        replace xpw2_2 := (World.cell?_of_block (a := ⟨pw2, 2, none⟩) hk).trans xpw2_2
        replace xpw2_3 := (World.cell?_of_block (a := ⟨pw2, 3, none⟩) hk).trans xpw2_3
        clear hk
        replace hpw2 := Nat.lt_of_lt_of_le hpw2 hs
        have hk := kit.still hA hg1 hg2 (b := p9) hp9 (fun e => by have := HUr20.out _ e; have := Epw1.out; have := Sw1.out; have := HZw1.out; have := Epw2.out; have := Sw2.out; have := HZw2.out; have := HZw3.out; have := HZw4.out; have := HZwc.out; have := Ep9.out; have := Sp9.out; have := HZw13.out; have := Epw17.out; have := Sw17.out; have := HZw17.out; have := HZw18.out; have := Epw22.out; have := Sw22.out; have := HZw22.out; have := HZw23.out; have := Epw26.out; have := Sw26.out; have := HZw26.out; have := HZw27.out; have := HZwc.out; have := HZwc.out; have := HZw30.out; omega) (fun e => by have := HUr21.out _ e; have := Epw1.out; have := Sw1.out; have := HZw1.out; have := Epw2.out; have := Sw2.out; have := HZw2.out; have := HZw3.out; have := HZw4.out; have := HZwc.out; have := Ep9.out; have := Sp9.out; have := HZw13.out; have := Epw17.out; have := Sw17.out; have := HZw17.out; have := HZw18.out; have := Epw22.out; have := Sw22.out; have := HZw22.out; have := HZw23.out; have := Epw26.out; have := Sw26.out; have := HZw26.out; have := HZw27.out; have := HZwc.out; have := HZwc.out; have := HZw30.out; omega)
        replace xp9_0 := (World.cell?_of_block (a := ⟨p9, 0, none⟩) hk).trans xp9_0
        replace xp9_1 := (World.cell?_of_block (a := ⟨p9, 1, none⟩) hk).trans xp9_1
        replace xp9_2 := (World.cell?_of_block (a := ⟨p9, 2, none⟩) hk).trans xp9_2
        replace xp9_3 := (World.cell?_of_block (a := ⟨p9, 3, none⟩) hk).trans xp9_3
        replace xp9_4 := (World.cell?_of_block (a := ⟨p9, 4, none⟩) hk).trans xp9_4
        replace xp9_5 := (World.cell?_of_block (a := ⟨p9, 5, none⟩) hk).trans xp9_5
        clear hk
        replace hp9 := Nat.lt_of_lt_of_le hp9 hs
        have hk := kit.still hA hg1 hg2 (b := pw17) hpw17 (fun e => by have := HUr20.out _ e; have := Epw1.out; have := Sw1.out; have := HZw1.out; have := Epw2.out; have := Sw2.out; have := HZw2.out; have := HZw3.out; have := HZw4.out; have := HZwc.out; have := Ep9.out; have := Sp9.out; have := HZw13.out; have := Epw17.out; have := Sw17.out; have := HZw17.out; have := HZw18.out; have := Epw22.out; have := Sw22.out; have := HZw22.out; have := HZw23.out; have := Epw26.out; have := Sw26.out; have := HZw26.out; have := HZw27.out; have := HZwc.out; have := HZwc.out; have := HZw30.out; omega) (fun e => by have := HUr21.out _ e; have := Epw1.out; have := Sw1.out; have := HZw1.out; have := Epw2.out; have := Sw2.out; have := HZw2.out; have := HZw3.out; have := HZw4.out; have := HZwc.out; have := Ep9.out; have := Sp9.out; have := HZw13.out; have := Epw17.out; have := Sw17.out; have := HZw17.out; have := HZw18.out; have := Epw22.out; have := Sw22.out; have := HZw22.out; have := HZw23.out; have := Epw26.out; have := Sw26.out; have := HZw26.out; have := HZw27.out; have := HZwc.out; have := HZwc.out; have := HZw30.out; omega)
        replace xpw17_0 := (World.cell?_of_block (a := ⟨pw17, 0, none⟩) hk).trans xpw17_0
        replace xpw17_1 := (World.cell?_of_block (a := ⟨pw17, 1, none⟩) hk).trans xpw17_1
        replace xpw17_2 := (World.cell?_of_block (a := ⟨pw17, 2, none⟩) hk).trans xpw17_2
        replace xpw17_3 := (World.cell?_of_block (a := ⟨pw17, 3, none⟩) hk).trans xpw17_3
        replace xpw17_4 := (World.cell?_of_block (a := ⟨pw17, 4, none⟩) hk).trans xpw17_4
        replace xpw17_5 := (World.cell?_of_block (a := ⟨pw17, 5, none⟩) hk).trans xpw17_5
        clear hk
        replace hpw17 := Nat.lt_of_lt_of_le hpw17 hs
        have hk := kit.still hA hg1 hg2 (b := pw22) hpw22 (fun e => by have := HUr20.out _ e; have := Epw1.out; have := Sw1.out; have := HZw1.out; have := Epw2.out; have := Sw2.out; have := HZw2.out; have := HZw3.out; have := HZw4.out; have := HZwc.out; have := Ep9.out; have := Sp9.out; have := HZw13.out; have := Epw17.out; have := Sw17.out; have := HZw17.out; have := HZw18.out; have := Epw22.out; have := Sw22.out; have := HZw22.out; have := HZw23.out; have := Epw26.out; have := Sw26.out; have := HZw26.out; have := HZw27.out; have := HZwc.out; have := HZwc.out; have := HZw30.out; omega) (fun e => by have := HUr21.out _ e; have := Epw1.out; have := Sw1.out; have := HZw1.out; have := Epw2.out; have := Sw2.out; have := HZw2.out; have := HZw3.out; have := HZw4.out; have := HZwc.out; have := Ep9.out; have := Sp9.out; have := HZw13.out; have := Epw17.out; have := Sw17.out; have := HZw17.out; have := HZw18.out; have := Epw22.out; have := Sw22.out; have := HZw22.out; have := HZw23.out; have := Epw26.out; have := Sw26.out; have := HZw26.out; have := HZw27.out; have := HZwc.out; have := HZwc.out; have := HZw30.out; omega)
        replace xpw22_0 := (World.cell?_of_block (a := ⟨pw22, 0, none⟩) hk).trans xpw22_0
        replace xpw22_1 := (World.cell?_of_block (a := ⟨pw22, 1, none⟩) hk).trans xpw22_1
        replace xpw22_2 := (World.cell?_of_block (a := ⟨pw22, 2, none⟩) hk).trans xpw22_2
        replace xpw22_3 := (World.cell?_of_block (a := ⟨pw22, 3, none⟩) hk).trans xpw22_3
        clear hk
        replace hpw22 := Nat.lt_of_lt_of_le hpw22 hs
        have hk := kit.still hA hg1 hg2 (b := pw26) hpw26 (fun e => by have := HUr20.out _ e; have := Epw1.out; have := Sw1.out; have := HZw1.out; have := Epw2.out; have := Sw2.out; have := HZw2.out; have := HZw3.out; have := HZw4.out; have := HZwc.out; have := Ep9.out; have := Sp9.out; have := HZw13.out; have := Epw17.out; have := Sw17.out; have := HZw17.out; have := HZw18.out; have := Epw22.out; have := Sw22.out; have := HZw22.out; have := HZw23.out; have := Epw26.out; have := Sw26.out; have := HZw26.out; have := HZw27.out; have := HZwc.out; have := HZwc.out; have := HZw30.out; omega) (fun e => by have := HUr21.out _ e; have := Epw1.out; have := Sw1.out; have := HZw1.out; have := Epw2.out; have := Sw2.out; have := HZw2.out; have := HZw3.out; have := HZw4.out; have := HZwc.out; have := Ep9.out; have := Sp9.out; have := HZw13.out; have := Epw17.out; have := Sw17.out; have := HZw17.out; have := HZw18.out; have := Epw22.out; have := Sw22.out; have := HZw22.out; have := HZw23.out; have := Epw26.out; have := Sw26.out; have := HZw26.out; have := HZw27.out; have := HZwc.out; have := HZwc.out; have := HZw30.out; omega)
        replace xpw26_0 := (World.cell?_of_block (a := ⟨pw26, 0, none⟩) hk).trans xpw26_0
        replace xpw26_1 := (World.cell?_of_block (a := ⟨pw26, 1, none⟩) hk).trans xpw26_1
        replace xpw26_2 := (World.cell?_of_block (a := ⟨pw26, 2, none⟩) hk).trans xpw26_2
        replace xpw26_3 := (World.cell?_of_block (a := ⟨pw26, 3, none⟩) hk).trans xpw26_3
        replace xpw26_4 := (World.cell?_of_block (a := ⟨pw26, 4, none⟩) hk).trans xpw26_4
        replace xpw26_5 := (World.cell?_of_block (a := ⟨pw26, 5, none⟩) hk).trans xpw26_5
        clear hk
        replace hpw26 := Nat.lt_of_lt_of_le hpw26 hs
        replace HOr10 := Lib.hid (((HOr10.out.later hA).marked hg1 (fun g a c => by have h3 := HUr20.out g a; have h4 := HUr10.out g c; have := Epw1.out; have := Sw1.out; have := HZw1.out; have := Epw2.out; have := Sw2.out; have := HZw2.out; have := HZw3.out; have := HZw4.out; have := HZwc.out; have := Ep9.out; have := Sp9.out; have := HZw13.out; have := Epw17.out; have := Sw17.out; have := HZw17.out; have := HZw18.out; have := Epw22.out; have := Sw22.out; have := HZw22.out; have := HZw23.out; have := Epw26.out; have := Sw26.out; have := HZw26.out; have := HZw27.out; have := HZwc.out; have := HZwc.out; have := HZw30.out; omega)).marked hg2 (fun g a c => by have h3 := HUr21.out g a; have h4 := HUr10.out g c; have := Epw1.out; have := Sw1.out; have := HZw1.out; have := Epw2.out; have := Sw2.out; have := HZw2.out; have := HZw3.out; have := HZw4.out; have := HZwc.out; have := Ep9.out; have := Sp9.out; have := HZw13.out; have := Epw17.out; have := Sw17.out; have := HZw17.out; have := HZw18.out; have := Epw22.out; have := Sw22.out; have := HZw22.out; have := HZw23.out; have := Epw26.out; have := Sw26.out; have := HZw26.out; have := HZw27.out; have := HZwc.out; have := HZwc.out; have := HZw30.out; omega))
        replace HOr11 := Lib.hid (((HOr11.out.later hA).marked hg1 (fun g a c => by have h3 := HUr20.out g a; have h4 := HUr11.out g c; have := Epw1.out; have := Sw1.out; have := HZw1.out; have := Epw2.out; have := Sw2.out; have := HZw2.out; have := HZw3.out; have := HZw4.out; have := HZwc.out; have := Ep9.out; have := Sp9.out; have := HZw13.out; have := Epw17.out; have := Sw17.out; have := HZw17.out; have := HZw18.out; have := Epw22.out; have := Sw22.out; have := HZw22.out; have := HZw23.out; have := Epw26.out; have := Sw26.out; have := HZw26.out; have := HZw27.out; have := HZwc.out; have := HZwc.out; have := HZw30.out; omega)).marked hg2 (fun g a c => by have h3 := HUr21.out g a; have h4 := HUr11.out g c; have := Epw1.out; have := Sw1.out; have := HZw1.out; have := Epw2.out; have := Sw2.out; have := HZw2.out; have := HZw3.out; have := HZw4.out; have := HZwc.out; have := Ep9.out; have := Sp9.out; have := HZw13.out; have := Epw17.out; have := Sw17.out; have := HZw17.out; have := HZw18.out; have := Epw22.out; have := Sw22.out; have := HZw22.out; have := HZw23.out; have := Epw26.out; have := Sw26.out; have := HZw26.out; have := HZw27.out; have := HZwc.out; have := HZwc.out; have := HZw30.out; omega))
        replace HOr15 := Lib.hid (((HOr15.out.later hA).marked hg1 (fun g a c => by have h3 := HUr20.out g a; have h4 := HUr15.out g c; have := Epw1.out; have := Sw1.out; have := HZw1.out; have := Epw2.out; have := Sw2.out; have := HZw2.out; have := HZw3.out; have := HZw4.out; have := HZwc.out; have := Ep9.out; have := Sp9.out; have := HZw13.out; have := Epw17.out; have := Sw17.out; have := HZw17.out; have := HZw18.out; have := Epw22.out; have := Sw22.out; have := HZw22.out; have := HZw23.out; have := Epw26.out; have := Sw26.out; have := HZw26.out; have := HZw27.out; have := HZwc.out; have := HZwc.out; have := HZw30.out; omega)).marked hg2 (fun g a c => by have h3 := HUr21.out g a; have h4 := HUr15.out g c; have := Epw1.out; have := Sw1.out; have := HZw1.out; have := Epw2.out; have := Sw2.out; have := HZw2.out; have := HZw3.out; have := HZw4.out; have := HZwc.out; have := Ep9.out; have := Sp9.out; have := HZw13.out; have := Epw17.out; have := Sw17.out; have := HZw17.out; have := HZw18.out; have := Epw22.out; have := Sw22.out; have := HZw22.out; have := HZw23.out; have := Epw26.out; have := Sw26.out; have := HZw26.out; have := HZw27.out; have := HZwc.out; have := HZwc.out; have := HZw30.out; omega))
        replace HOr16 := Lib.hid (((HOr16.out.later hA).marked hg1 (fun g a c => by have h3 := HUr20.out g a; have h4 := HUr16.out g c; have := Epw1.out; have := Sw1.out; have := HZw1.out; have := Epw2.out; have := Sw2.out; have := HZw2.out; have := HZw3.out; have := HZw4.out; have := HZwc.out; have := Ep9.out; have := Sp9.out; have := HZw13.out; have := Epw17.out; have := Sw17.out; have := HZw17.out; have := HZw18.out; have := Epw22.out; have := Sw22.out; have := HZw22.out; have := HZw23.out; have := Epw26.out; have := Sw26.out; have := HZw26.out; have := HZw27.out; have := HZwc.out; have := HZwc.out; have := HZw30.out; omega)).marked hg2 (fun g a c => by have h3 := HUr21.out g a; have h4 := HUr16.out g c; have := Epw1.out; have := Sw1.out; have := HZw1.out; have := Epw2.out; have := Sw2.out; have := HZw2.out; have := HZw3.out; have := HZw4.out; have := HZwc.out; have := Ep9.out; have := Sp9.out; have := HZw13.out; have := Epw17.out; have := Sw17.out; have := HZw17.out; have := HZw18.out; have := Epw22.out; have := Sw22.out; have := HZw22.out; have := HZw23.out; have := Epw26.out; have := Sw26.out; have := HZw26.out; have := HZw27.out; have := HZwc.out; have := HZwc.out; have := HZw30.out; omega))
        replace HOr24 := Lib.hid (((HOr24.out.later hA).marked hg1 (fun g a c => by have h3 := HUr20.out g a; have h4 := HUr24.out g c; have := Epw1.out; have := Sw1.out; have := HZw1.out; have := Epw2.out; have := Sw2.out; have := HZw2.out; have := HZw3.out; have := HZw4.out; have := HZwc.out; have := Ep9.out; have := Sp9.out; have := HZw13.out; have := Epw17.out; have := Sw17.out; have := HZw17.out; have := HZw18.out; have := Epw22.out; have := Sw22.out; have := HZw22.out; have := HZw23.out; have := Epw26.out; have := Sw26.out; have := HZw26.out; have := HZw27.out; have := HZwc.out; have := HZwc.out; have := HZw30.out; omega)).marked hg2 (fun g a c => by have h3 := HUr21.out g a; have h4 := HUr24.out g c; have := Epw1.out; have := Sw1.out; have := HZw1.out; have := Epw2.out; have := Sw2.out; have := HZw2.out; have := HZw3.out; have := HZw4.out; have := HZwc.out; have := Ep9.out; have := Sp9.out; have := HZw13.out; have := Epw17.out; have := Sw17.out; have := HZw17.out; have := HZw18.out; have := Epw22.out; have := Sw22.out; have := HZw22.out; have := HZw23.out; have := Epw26.out; have := Sw26.out; have := HZw26.out; have := HZw27.out; have := HZwc.out; have := HZwc.out; have := HZw30.out; omega))
        replace HOr25 := Lib.hid (((HOr25.out.later hA).marked hg1 (fun g a c => by have h3 := HUr20.out g a; have h4 := HUr25.out g c; have := Epw1.out; have := Sw1.out; have := HZw1.out; have := Epw2.out; have := Sw2.out; have := HZw2.out; have := HZw3.out; have := HZw4.out; have := HZwc.out; have := Ep9.out; have := Sp9.out; have := HZw13.out; have := Epw17.out; have := Sw17.out; have := HZw17.out; have := HZw18.out; have := Epw22.out; have := Sw22.out; have := HZw22.out; have := HZw23.out; have := Epw26.out; have := Sw26.out; have := HZw26.out; have := HZw27.out; have := HZwc.out; have := HZwc.out; have := HZw30.out; omega)).marked hg2 (fun g a c => by have h3 := HUr21.out g a; have h4 := HUr25.out g c; have := Epw1.out; have := Sw1.out; have := HZw1.out; have := Epw2.out; have := Sw2.out; have := HZw2.out; have := HZw3.out; have := HZw4.out; have := HZwc.out; have := Ep9.out; have := Sp9.out; have := HZw13.out; have := Epw17.out; have := Sw17.out; have := HZw17.out; have := HZw18.out; have := Epw22.out; have := Sw22.out; have := HZw22.out; have := HZw23.out; have := Epw26.out; have := Sw26.out; have := HZw26.out; have := HZw27.out; have := HZwc.out; have := HZwc.out; have := HZw30.out; omega))
        replace HA0 := Lib.hid (HA0.out.below hb (HA0'.out))
        replace HM0 := Lib.hid (HM0.out.below hb (HM0'.out))
        replace HA2 := Lib.hid (HA2.out.below hb (HA2'.out))
        replace HM2 := Lib.hid (HM2.out.below hb (HM2'.out))
        replace HB := Lib.hid (HB.out.trans hb)
        replace hz := Nat.le_trans hz hs
        have HZw31 := Lib.hid hs
        replace HOr20 := Lib.hid hoI
        replace HOr21 := Lib.hid hoS
        clear hap1 hb hs hA hg1 hg2 hoI hoS
        go_wp2_with fail
        refine (kit.eqAcceptorO T3 T4 T5 T6 _ _ (.slice yr24 T1.length qr24) (.slice yr25 T2.length qr25) T1 T2 T3 T4 T5 T6 _ _ (.slice yr10 T1.length qr10) (.slice yr11 T2.length qr11) T1 T2 w31 (by omega) (by omega) HOr24.out HOr25.out (by omega) (by omega) HOr10.out HOr11.out).mono ?_
        rintro e w32 ⟨he, hb⟩
        rw [decide_eq_true ⟨rfl, rfl, rfl, rfl, rfl, rfl⟩] at he
        subst he
        replace xpw1_0 := (hb.cell (p := ⟨pw1, 0, none⟩) hpw1).trans xpw1_0
        replace xpw1_1 := (hb.cell (p := ⟨pw1, 1, none⟩) hpw1).trans xpw1_1
        replace xpw1_2 := (hb.cell (p := ⟨pw1, 2, none⟩) hpw1).trans xpw1_2
        replace xpw1_3 := (hb.cell (p := ⟨pw1, 3, none⟩) hpw1).trans xpw1_3
        replace xpw1_4 := (hb.cell (p := ⟨pw1, 4, none⟩) hpw1).trans xpw1_4
        replace xpw1_5 := (hb.cell (p := ⟨pw1, 5, none⟩) hpw1).trans xpw1_5
        replace hpw1 := Nat.lt_of_lt_of_le hpw1 hb.size
        replace xpw2_0 := (hb.cell (p := ⟨pw2, 0, none⟩) hpw2).trans xpw2_0
        replace xpw2_1 := (hb.cell (p := ⟨pw2, 1, none⟩) hpw2).trans xpw2_1
        replace xpw2_2 := (hb.cell (p := ⟨pw2, 2, none⟩) hpw2).trans xpw2_2
        replace xpw2_3 := (hb.cell (p := ⟨pw2, 3, none⟩) hpw2).trans xpw2_3
        replace hpw2 := Nat.lt_of_lt_of_le hpw2 hb.size
        replace xp9_0 := (hb.cell (p := ⟨p9, 0, none⟩) hp9).trans xp9_0
        replace xp9_1 := (hb.cell (p := ⟨p9, 1, none⟩) hp9).trans xp9_1
        replace xp9_2 := (hb.cell (p := ⟨p9, 2, none⟩) hp9).trans xp9_2
        replace xp9_3 := (hb.cell (p := ⟨p9, 3, none⟩) hp9).trans xp9_3
        replace xp9_4 := (hb.cell (p := ⟨p9, 4, none⟩) hp9).trans xp9_4
        replace xp9_5 := (hb.cell (p := ⟨p9, 5, none⟩) hp9).trans xp9_5
        replace hp9 := Nat.lt_of_lt_of_le hp9 hb.size
        replace xpw17_0 := (hb.cell (p := ⟨pw17, 0, none⟩) hpw17).trans xpw17_0
        replace xpw17_1 := (hb.cell (p := ⟨pw17, 1, none⟩) hpw17).trans xpw17_1
        replace xpw17_2 := (hb.cell (p := ⟨pw17, 2, none⟩) hpw17).trans xpw17_2
        replace xpw17_3 := (hb.cell (p := ⟨pw17, 3, none⟩) hpw17).trans xpw17_3
        replace xpw17_4 := (hb.cell (p := ⟨pw17, 4, none⟩) hpw17).trans xpw17_4
        replace xpw17_5 := (hb.cell (p := ⟨pw17, 5, none⟩) hpw17).trans xpw17_5
        replace hpw17 := Nat.lt_of_lt_of_le hpw17 hb.size
        replace xpw22_0 := (hb.cell (p := ⟨pw22, 0, none⟩) hpw22).trans xpw22_0
        replace xpw22_1 := (hb.cell (p := ⟨pw22, 1, none⟩) hpw22).trans xpw22_1
        replace xpw22_2 := (hb.cell (p := ⟨pw22, 2, none⟩) hpw22).trans xpw22_2
        replace xpw22_3 := (hb.cell (p := ⟨pw22, 3, none⟩) hpw22).trans xpw22_3
        replace hpw22 := Nat.lt_of_lt_of_le hpw22 hb.size
        replace xpw26_0 := (hb.cell (p := ⟨pw26, 0, none⟩) hpw26).trans xpw26_0
        replace xpw26_1 := (hb.cell (p := ⟨pw26, 1, none⟩) hpw26).trans xpw26_1
        replace xpw26_2 := (hb.cell (p := ⟨pw26, 2, none⟩) hpw26).trans xpw26_2
        replace xpw26_3 := (hb.cell (p := ⟨pw26, 3, none⟩) hpw26).trans xpw26_3
        replace xpw26_4 := (hb.cell (p := ⟨pw26, 4, none⟩) hpw26).trans xpw26_4
        replace xpw26_5 := (hb.cell (p := ⟨pw26, 5, none⟩) hpw26).trans xpw26_5
        replace hpw26 := Nat.lt_of_lt_of_le hpw26 hb.size
        replace HB := Lib.hid (HB.out.trans (hb.mono hz))
        replace hz := Nat.le_trans hz hb.size
        have HZw32 := Lib.hid hb.size
        replace HOr10 := Lib.hid (HOr10.out.later hb)
        replace HOr11 := Lib.hid (HOr11.out.later hb)
        replace HOr15 := Lib.hid (HOr15.out.later hb)
        replace HOr16 := Lib.hid (HOr16.out.later hb)
        replace HOr20 := Lib.hid (HOr20.out.later hb)
        replace HOr21 := Lib.hid (HOr21.out.later hb)
        replace HOr24 := Lib.hid (HOr24.out.later hb)
        replace HOr25 := Lib.hid (HOr25.out.later hb)
        replace HA0 := Lib.hid (HA0.out.later hb)
        replace HM0 := Lib.hid (HM0.out.later hb)
        replace HA2 := Lib.hid (HA2.out.later hb)
        replace HM2 := Lib.hid (HM2.out.later hb)
        clear hb
        go_wp2_with fail
        refine (kit.markAcceptor T3 T4 T5 T6 _ _ (.slice yr24 T1.length qr24) (.slice yr25 T2.length qr25) T1 T2 w32 (by omega) (by omega) HOr24.out HOr25.out HPr24.out 1 rfl).mono ?_
        rintro e w33 ⟨rfl, hoI, hoS, wa, wb, hA, hg1, hg2⟩
        have hap1 := HPr24.out
        have hb : Below w.heap.size w32 w33 := ((hA.mono hz).grown hg1 (Nat.le_trans hz hA.size) (fun g h => by have := HUr24.out g h; have := Epw1.out; have := Sw1.out; have := HZw1.out; have := Epw2.out; have := Sw2.out; have := HZw2.out; have := HZw3.out; have := HZw4.out; have := HZwc.out; have := Ep9.out; have := Sp9.out; have := HZw13.out; have := Epw17.out; have := Sw17.out; have := HZw17.out; have := HZw18.out; have := Epw22.out; have := Sw22.out; have := HZw22.out; have := HZw23.out; have := Epw26.out; have := Sw26.out; have := HZw26.out; have := HZw27.out; have := HZwc.out; have := HZwc.out; have := HZw30.out; have := HZw31.out; have := HZw32.out; omega)).grown hg2 (Nat.le_trans hz (Nat.le_trans hA.size hg1.size)) (fun g h => by have := HUr25.out g h; have := Epw1.out; have := Sw1.out; have := HZw1.out; have := Epw2.out; have := Sw2.out; have := HZw2.out; have := HZw3.out; have := HZw4.out; have := HZwc.out; have := Ep9.out; have := Sp9.out; have := HZw13.out; have := Epw17.out; have := Sw17.out; have := HZw17.out; have := HZw18.out; have := Epw22.out; have := Sw22.out; have := HZw22.out; have := HZw23.out; have := Epw26.out; have := Sw26.out; have := HZw26.out; have := HZw27.out; have := HZwc.out; have := HZwc.out; have := HZw30.out; have := HZw31.out; have := HZw32.out; omega)
        have hs : w32.heap.size ≤ w33.heap.size := hb.size
        have hk := kit.still hA hg1 hg2 (b := pw1) hpw1 (fun e => by have := HUr24.out _ e; have := Epw1.out; have := Sw1.out; have := HZw1.out; have := Epw2.out; have := Sw2.out; have := HZw2.out; have := HZw3.out; have := HZw4.out; have := HZwc.out; have := Ep9.out; have := Sp9.out; have := HZw13.out; have := Epw17.out; have := Sw17.out; have := HZw17.out; have := HZw18.out; have := Epw22.out; have := Sw22.out; have := HZw22.out; have := HZw23.out; have := Epw26.out; have := Sw26.out; have := HZw26.out; have := HZw27.out; have := HZwc.out; have := HZwc.out; have := HZw30.out; have := HZw31.out; have := HZw32.out; omega) (fun e => by have := HUr25.out _ e; have := Epw1.out; have := Sw1.out; have := HZw1.out; have := Epw2.out; have := Sw2.out; have := HZw2.out; have := HZw3.out; have := HZw4.out; have := HZwc.out; have := Ep9.out; have := Sp9.out; have := HZw13.out; have := Epw17.out; have := Sw17.out; have := HZw17.out; have := HZw18.out; have := Epw22.out; have := Sw22.out; have := HZw22.out; have := HZw23.out; have := Epw26.out; have := Sw26.out; have := HZw26.out; have := HZw27.out; have := HZwc.out; have := HZwc.out; have := HZw30.out; have := HZw31.out; have := HZw32.out; omega)
        replace xpw1_0 := (World.cell?_of_block (a := ⟨pw1, 0, none⟩) hk).trans xpw1_0
        replace xpw1_1 := (World.cell?_of_block (a := ⟨pw1, 1, none⟩) hk).trans xpw1_1
        replace xpw1_2 := (World.cell?_of_block (a := ⟨pw1, 2, none⟩) hk).trans xpw1_2
        replace xpw1_3 := (World.cell?_of_block (a := ⟨pw1, 3, none⟩) hk).trans xpw1_3
        replace xpw1_4 := (World.cell?_of_block (a := ⟨pw1, 4, none⟩) hk).trans xpw1_4
        replace xpw1_5 := (World.cell?_of_block (a := ⟨pw1, 5, none⟩) hk).trans xpw1_5
        clear hk
        replace hpw1 := Nat.lt_of_lt_of_le hpw1 hs
        have hk := kit.still hA hg1 hg2 (b := pw2) hpw2 (fun e => by have := HUr24.out _ e; have := Epw1.out; have := Sw1.out; have := HZw1.out; have := Epw2.out; have := Sw2.out; have := HZw2.out; have := HZw3.out; have := HZw4.out; have := HZwc.out; have := Ep9.out; have := Sp9.out; have := HZw13.out; have := Epw17.out; have := Sw17.out; have := HZw17.out; have := HZw18.out; have := Epw22.out; have := Sw22.out; have := HZw22.out; have := HZw23.out; have := Epw26.out; have := Sw26.out; have := HZw26.out; have := HZw27.out; have := HZwc.out; have := HZwc.out; have := HZw30.out; have := HZw31.out; have := HZw32.out; omega) (fun e => by have := HUr25.out _ e; have := Epw1.out; have := Sw1.out; have := HZw1.out; have := Epw2.out; have := Sw2.out; have := HZw2.out; have := HZw3.out; have := HZw4.out; have := HZwc.out; have := Ep9.out; have := Sp9.out; have := HZw13.out; have := Epw17.out; have := Sw17.out; have := HZw17.out; have := HZw18.out; have := Epw22.out; have := Sw22.out; have := HZw22.out; have := HZw23.out; have := Epw26.out; have := Sw26.out; have := HZw26.out; have := HZw27.out; have := HZwc.out; have := HZwc.out; have := HZw30.out; have := HZw31.out; have := HZw32.out; omega)
        replace xpw2_0 := (World.cell?_of_block (a := ⟨pw2, 0, none⟩) hk).trans xpw2_0
        replace xpw2_1 := (World.cell?_of_block (a := ⟨pw2, 1, none⟩) hk).trans xpw2_1
        replace xpw2_2 := (World.cell?_of_block (a := ⟨pw2, 2, none⟩) hk).trans xpw2_2
        replace xpw2_3 := (World.cell?_of_block (a := ⟨pw2, 3, none⟩) hk).trans xpw2_3
        clear hk
        replace hpw2 := Nat.lt_of_lt_of_le hpw2 hs
        have hk := kit.still hA hg1 hg2 (b := p9) hp9 (fun e => by have := HUr24.out _ e; have := Epw1.out; have := Sw1.out; have := HZw1.out; have := Epw2.out; have := Sw2.out; have := HZw2.out; have := HZw3.out; have := HZw4.out; have := HZwc.out; have := Ep9.out; have := Sp9.out; have := HZw13.out; have := Epw17.out; have := Sw17.out; have := HZw17.out; have := HZw18.out; have := Epw22.out; have := Sw22.out; have := HZw22.out; have := HZw23.out; have := Epw26.out; have := Sw26.out; have := HZw26.out; have := HZw27.out; have := HZwc.out; have := HZwc.out; have := HZw30.out; have := HZw31.out; have := HZw32.out; omega) (fun e => by have := HUr25.out _ e; have := Epw1.out; have := Sw1.out; have := HZw1.out; have := Epw2.out; have := Sw2.out; have := HZw2.out; have := HZw3.out; have := HZw4.out; have := HZwc.out; have := Ep9.out; have := Sp9.out; have := HZw13.out; have := Epw17.out; have := Sw17.out; have := HZw17.out; have := HZw18.out; have := Epw22.out; have := Sw22.out; have := HZw22.out; have := HZw23.out; have := Epw26.out; have := Sw26.out; have := HZw26.out; have := HZw27.out; have := HZwc.out; have := HZwc.out; have := HZw30.out; have := HZw31.out; have := HZw32.out; omega)
        replace xp9_0 := (World.cell?_of_block (a := ⟨p9, 0, none⟩) hk).trans xp9_0
        replace xp9_1 := (World.cell?_of_block (a := ⟨p9, 1, none⟩) hk).trans xp9_1
        replace xp9_2 := (World.cell?_of_block (a := ⟨p9, 2, none⟩) hk).trans xp9_2
        replace xp9_3 := (World.cell?_of_block (a := ⟨p9, 3, none⟩) hk).trans xp9_3
        replace xp9_4 := (World.cell?_of_block (a := ⟨p9, 4, none⟩) hk).trans xp9_4
        replace xp9_5 := (World.cell?_of_block (a := ⟨p9, 5, none⟩) hk).trans xp9_5
        clear hk
        replace hp9 := Nat.lt_of_lt_of_le hp9 hs
        have hk := kit.still hA hg1 hg2 (b := pw17) hpw17 (fun e => by have := HUr24.out _ e; have := Epw1.out; have := Sw1.out; have := HZw1.out; have := Epw2.out; have := Sw2.out; have := HZw2.out; have := HZw3.out; have := HZw4.out; have := HZwc.out; have := Ep9.out; have := Sp9.out; have := HZw13.out; have := Epw17.out; have := Sw17.out; have := HZw17.out; have := HZw18.out; have := Epw22.out; have := Sw22.out; have := HZw22.out; have := HZw23.out; have := Epw26.out; have := Sw26.out; have := HZw26.out; have := HZw27.out; have := HZwc.out; have := HZwc.out; have := HZw30.out; have := HZw31.out; have := HZw32.out; omega) (fun e => by have := HUr25.out _ e; have := Epw1.out; have := Sw1.out; have := HZw1.out; have := Epw2.out; have := Sw2.out; have := HZw2.out; have := HZw3.out; have := HZw4.out; have := HZwc.out; have := Ep9.out; have := Sp9.out; have := HZw13.out; have := Epw17.out; have := Sw17.out; have := HZw17.out; have := HZw18.out; have := Epw22.out; have := Sw22.out; have := HZw22.out; have := HZw23.out; have := Epw26.out; have := Sw26.out; have := HZw26.out; have := HZw27.out; have := HZwc.out; have := HZwc.out; have := HZw30.out; have := HZw31.out; have := HZw32.out; omega)
        replace xpw17_0 := (World.cell?_of_block (a := ⟨pw17, 0, none⟩) hk).trans xpw17_0
        replace xpw17_1 := (World.cell?_of_block (a := ⟨pw17, 1, none⟩) hk).trans xpw17_1
        replace xpw17_2 := (World.cell?_of_block (a := ⟨pw17, 2, none⟩) hk).trans xpw17_2
        replace xpw17_3 := (World.cell?_of_block (a := ⟨pw17, 3, none⟩) hk).trans xpw17_3
        replace xpw17_4 := (World.cell?_of_block (a := ⟨pw17, 4, none⟩) hk).trans xpw17_4
        replace xpw17_5 := (World.cell?_of_block (a := ⟨pw17, 5, none⟩) hk).trans xpw17_5
        clear hk
        replace hpw17 := Nat.lt_of_lt_of_le hpw17 hs
        have hk := kit.still hA hg1 hg2 (b := pw22) hpw22 (fun e => by have := HUr24.out _ e; have := Epw1.out; have := Sw1.out; have := HZw1.out; have := Epw2.out; have := Sw2.out; have := HZw2.out; have := HZw3.out; have := HZw4.out; have := HZwc.out; have := Ep9.out; have := Sp9.out; have := HZw13.out; have := Epw17.out; have := Sw17.out; have := HZw17.out; have := HZw18.out; have := Epw22.out; have := Sw22.out; have := HZw22.out; have := HZw23.out; have := Epw26.out; have := Sw26.out; have := HZw26.out; have := HZw27.out; have := HZwc.out; have := HZwc.out; have := HZw30.out; have := HZw31.out; have := HZw32.out; omega) (fun e => by have := HUr25.out _ e; have := Epw1.out; have := Sw1.out; have := HZw1.out; have := Epw2.out; have := Sw2.out; have := HZw2.out; have := HZw3.out; have := HZw4.out; have := HZwc.out; have := Ep9.out; have := Sp9.out; have := HZw13.out; have := Epw17.out; have := Sw17.out; have := HZw17.out; have := HZw18.out; have := Epw22.out; have := Sw22.out; have := HZw22.out; have := HZw23.out; have := Epw26.out; have := Sw26.out; have := HZw26.out; have := HZw27.out; have := HZwc.out; have := HZwc.out; have := HZw30.out; have := HZw31.out; have := HZw32.out; omega)
        replace xpw22_0 := (World.cell?_of_block (a := ⟨pw22, 0, none⟩) hk).trans xpw22_0
        replace xpw22_1 := (World.cell?_of_block (a := ⟨pw22, 1, none⟩) hk).trans xpw22_1
        replace xpw22_2 := (World.cell?_of_block (a := ⟨pw22, 2, none⟩) hk).trans xpw22_2
        replace xpw22_3 := (World.cell?_of_block (a := ⟨pw22, 3, none⟩) hk).trans xpw22_3
        clear hk
        replace hpw22 := Nat.lt_of_lt_of_le hpw22 hs
        have hk := kit.still hA hg1 hg2 (b := pw26) hpw26 (fun e => by have := HUr24.out _ e; have := Epw1.out; have := Sw1.out; have := HZw1.out; have := Epw2.out; have := Sw2.out; have := HZw2.out; have := HZw3.out; have := HZw4.out; have := HZwc.out; have := Ep9.out; have := Sp9.out; have := HZw13.out; have := Epw17.out; have := Sw17.out; have := HZw17.out; have := HZw18.out; have := Epw22.out; have := Sw22.out; have := HZw22.out; have := HZw23.out; have := Epw26.out; have := Sw26.out; have := HZw26.out; have := HZw27.out; have := HZwc.out; have := HZwc.out; have := HZw30.out; have := HZw31.out; have := HZw32.out; omega) (fun e => by have := HUr25.out _ e; have := Epw1.out; have := Sw1.out; have := HZw1.out; have := Epw2.out; have := Sw2.out; have := HZw2.out; have := HZw3.out; have := HZw4.out; have := HZwc.out; have := Ep9.out; have := Sp9.out; have := HZw13.out; have := Epw17.out; have := Sw17.out; have := HZw17.out; have := HZw18.out; have := Epw22.out; have := Sw22.out; have := HZw22.out; have := HZw23.out; have := Epw26.out; have := Sw26.out; have := HZw26.out; have := HZw27.out; have := HZwc.out; have := HZwc.out; have := HZw30.out; have := HZw31.out; have := HZw32.out; omega)
        replace xpw26_0 := (World.cell?_of_block (a := ⟨pw26, 0, none⟩) hk).trans xpw26_0
        replace xpw26_1 := (World.cell?_of_block (a := ⟨pw26, 1, none⟩) hk).trans xpw26_1
        replace xpw26_2 := (World.cell?_of_block (a := ⟨pw26, 2, none⟩) hk).trans xpw26_2
        replace xpw26_3 := (World.cell?_of_block (a := ⟨pw26, 3, none⟩) hk).trans xpw26_3
        replace xpw26_4 := (World.cell?_of_block (a := ⟨pw26, 4, none⟩) hk).trans xpw26_4
        replace xpw26_5 := (World.cell?_of_block (a := ⟨pw26, 5, none⟩) hk).trans xpw26_5
        clear hk
        replace hpw26 := Nat.lt_of_lt_of_le hpw26 hs
        replace HOr10 := Lib.hid (((HOr10.out.later hA).marked hg1 (fun g a c => by have h3 := HUr24.out g a; have h4 := HUr10.out g c; have := Epw1.out; have := Sw1.out; have := HZw1.out; have := Epw2.out; have := Sw2.out; have := HZw2.out; have := HZw3.out; have := HZw4.out; have := HZwc.out; have := Ep9.out; have := Sp9.out; have := HZw13.out; have := Epw17.out; have := Sw17.out; have := HZw17.out; have := HZw18.out; have := Epw22.out; have := Sw22.out; have := HZw22.out; have := HZw23.out; have := Epw26.out; have := Sw26.out; have := HZw26.out; have := HZw27.out; have := HZwc.out; have := HZwc.out; have := HZw30.out; have := HZw31.out; have := HZw32.out; omega)).marked hg2 (fun g a c => by have h3 := HUr25.out g a; have h4 := HUr10.out g c; have := Epw1.out; have := Sw1.out; have := HZw1.out; have := Epw2.out; have := Sw2.out; have := HZw2.out; have := HZw3.out; have := HZw4.out; have := HZwc.out; have := Ep9.out; have := Sp9.out; have := HZw13.out; have := Epw17.out; have := Sw17.out; have := HZw17.out; have := HZw18.out; have := Epw22.out; have := Sw22.out; have := HZw22.out; have := HZw23.out; have := Epw26.out; have := Sw26.out; have := HZw26.out; have := HZw27.out; have := HZwc.out; have := HZwc.out; have := HZw30.out; have := HZw31.out; have := HZw32.out; omega))
        replace HOr11 := Lib.hid (((HOr11.out.later hA).marked hg1 (fun g a c => by have h3 := HUr24.out g a; have h4 := HUr11.out g c; have := Epw1.out; have := Sw1.out; have := HZw1.out; have := Epw2.out; have := Sw2.out; have := HZw2.out; have := HZw3.out; have := HZw4.out; have := HZwc.out; have := Ep9.out; have := Sp9.out; have := HZw13.out; have := Epw17.out; have := Sw17.out; have := HZw17.out; have := HZw18.out; have := Epw22.out; have := Sw22.out; have := HZw22.out; have := HZw23.out; have := Epw26.out; have := Sw26.out; have := HZw26.out; have := HZw27.out; have := HZwc.out; have := HZwc.out; have := HZw30.out; have := HZw31.out; have := HZw32.out; omega)).marked hg2 (fun g a c => by have h3 := HUr25.out g a; have h4 := HUr11.out g c; have := Epw1.out; have := Sw1.out; have := HZw1.out; have := Epw2.out; have := Sw2.out; have := HZw2.out; have := HZw3.out; have := HZw4.out; have := HZwc.out; have := Ep9.out; have := Sp9.out; have := HZw13.out; have := Epw17.out; have := Sw17.out; have := HZw17.out; have := HZw18.out; have := Epw22.out; have := Sw22.out; have := HZw22.out; have := HZw23.out; have := Epw26.out; have := Sw26.out; have := HZw26.out; have := HZw27.out; have := HZwc.out; have := HZwc.out; have := HZw30.out; have := HZw31.out; have := HZw32.out; omega))
        replace HOr15 := Lib.hid (((HOr15.out.later hA).marked hg1 (fun g a c => by have h3 := HUr24.out g a; have h4 := HUr15.out g c; have := Epw1.out; have := Sw1.out; have := HZw1.out; have := Epw2.out; have := Sw2.out; have := HZw2.out; have := HZw3.out; have := HZw4.out; have := HZwc.out; have := Ep9.out; have := Sp9.out; have := HZw13.out; have := Epw17.out; have := Sw17.out; have := HZw17.out; have := HZw18.out; have := Epw22.out; have := Sw22.out; have := HZw22.out; have := HZw23.out; have := Epw26.out; have := Sw26.out; have := HZw26.out; have := HZw27.out; have := HZwc.out; have := HZwc.out; have := HZw30.out; have := HZw31.out; have := HZw32.out; omega)).marked hg2 (fun g a c => by have h3 := HUr25.out g a; have h4 := HUr15.out g c; have := Epw1.out; have := Sw1.out; have := HZw1.out; have := Epw2.out; have := Sw2.out; have := HZw2.out; have := HZw3.out; have := HZw4.out; have := HZwc.out; have := Ep9.out; have := Sp9.out; have := HZw13.out; have := Epw17.out; have := Sw17.out; have := HZw17.out; have := HZw18.out; have := Epw22.out; have := Sw22.out; have := HZw22.out; have := HZw23.out; have := Epw26.out; have := Sw26.out; have := HZw26.out; have := HZw27.out; have := HZwc.out; have := HZwc.out; have := HZw30.out; have := HZw31.out; have := HZw32.out; omega))
        replace HOr16 := Lib.hid (((HOr16.out.later hA).marked hg1 (fun g a c => by have h3 := HUr24.out g a; have h4 := HUr16.out g c; have := Epw1.out; have := Sw1.out; have := HZw1.out; have := Epw2.out; have := Sw2.out; have := HZw2.out; have := HZw3.out; have := HZw4.out; have := HZwc.out; have := Ep9.out; have := Sp9.out; have := HZw13.out; have := Epw17.out; have := Sw17.out; have := HZw17.out; have := HZw18.out; have := Epw22.out; have := Sw22.out; have := HZw22.out; have := HZw23.out; have := Epw26.out; have := Sw26.out; have := HZw26.out; have := HZw27.out; have := HZwc.out; have := HZwc.out; have := HZw30.out; have := HZw31.out; have := HZw32.out; omega)).marked hg2 (fun g a c => by have h3 := HUr25.out g a; have h4 := HUr16.out g c; have := Epw1.out; have := Sw1.out; have := HZw1.out; have := Epw2.out; have := Sw2.out; have := HZw2.out; have := HZw3.out; have := HZw4.out; have := HZwc.out; have := Ep9.out; have := Sp9.out; have := HZw13.out; have := Epw17.out; have := Sw17.out; have := HZw17.out; have := HZw18.out; have := Epw22.out; have := Sw22.out; have := HZw22.out; have := HZw23.out; have := Epw26.out; have := Sw26.out; have := HZw26.out; have := HZw27.out; have := HZwc.out; have := HZwc.out; have := HZw30.out; have := HZw31.out; have := HZw32.out; omega))
        replace HOr20 := Lib.hid (((HOr20.out.later hA).marked hg1 (fun g a c => by have h3 := HUr24.out g a; have h4 := HUr20.out g c; have := Epw1.out; have := Sw1.out; have := HZw1.out; have := Epw2.out; have := Sw2.out; have := HZw2.out; have := HZw3.out; have := HZw4.out; have := HZwc.out; have := Ep9.out; have := Sp9.out; have := HZw13.out; have := Epw17.out; have := Sw17.out; have := HZw17.out; have := HZw18.out; have := Epw22.out; have := Sw22.out; have := HZw22.out; have := HZw23.out; have := Epw26.out; have := Sw26.out; have := HZw26.out; have := HZw27.out; have := HZwc.out; have := HZwc.out; have := HZw30.out; have := HZw31.out; have := HZw32.out; omega)).marked hg2 (fun g a c => by have h3 := HUr25.out g a; have h4 := HUr20.out g c; have := Epw1.out; have := Sw1.out; have := HZw1.out; have := Epw2.out; have := Sw2.out; have := HZw2.out; have := HZw3.out; have := HZw4.out; have := HZwc.out; have := Ep9.out; have := Sp9.out; have := HZw13.out; have := Epw17.out; have := Sw17.out; have := HZw17.out; have := HZw18.out; have := Epw22.out; have := Sw22.out; have := HZw22.out; have := HZw23.out; have := Epw26.out; have := Sw26.out; have := HZw26.out; have := HZw27.out; have := HZwc.out; have := HZwc.out; have := HZw30.out; have := HZw31.out; have := HZw32.out; omega))
        replace HOr21 := Lib.hid (((HOr21.out.later hA).marked hg1 (fun g a c => by have h3 := HUr24.out g a; have h4 := HUr21.out g c; have := Epw1.out; have := Sw1.out; have := HZw1.out; have := Epw2.out; have := Sw2.out; have := HZw2.out; have := HZw3.out; have := HZw4.out; have := HZwc.out; have := Ep9.out; have := Sp9.out; have := HZw13.out; have := Epw17.out; have := Sw17.out; have := HZw17.out; have := HZw18.out; have := Epw22.out; have := Sw22.out; have := HZw22.out; have := HZw23.out; have := Epw26.out; have := Sw26.out; have := HZw26.out; have := HZw27.out; have := HZwc.out; have := HZwc.out; have := HZw30.out; have := HZw31.out; have := HZw32.out; omega)).marked hg2 (fun g a c => by have h3 := HUr25.out g a; have h4 := HUr21.out g c; have := Epw1.out; have := Sw1.out; have := HZw1.out; have := Epw2.out; have := Sw2.out; have := HZw2.out; have := HZw3.out; have := HZw4.out; have := HZwc.out; have := Ep9.out; have := Sp9.out; have := HZw13.out; have := Epw17.out; have := Sw17.out; have := HZw17.out; have := HZw18.out; have := Epw22.out; have := Sw22.out; have := HZw22.out; have := HZw23.out; have := Epw26.out; have := Sw26.out; have := HZw26.out; have := HZw27.out; have := HZwc.out; have := HZwc.out; have := HZw30.out; have := HZw31.out; have := HZw32.out; omega))
        replace HA0 := Lib.hid (HA0.out.below hb (HA0'.out))
        replace HM0 := Lib.hid (HM0.out.below hb (HM0'.out))
        replace HA2 := Lib.hid (HA2.out.below hb (HA2'.out))
        replace HM2 := Lib.hid (HM2.out.below hb (HM2'.out))
        replace HB := Lib.hid (HB.out.trans hb)
        replace hz := Nat.le_trans hz hs
        have HZw33 := Lib.hid hs
        replace HOr24 := Lib.hid hoI
        replace HOr25 := Lib.hid hoS
        clear hap1 hb hs hA hg1 hg2 hoI hoS
        go_wp2_with fail
        refine (kit.heldAcceptor T3 T4 T5 T6 _ _ (.slice yr24 T1.length qr24) (.slice yr25 T2.length qr25) (T1.length) (T2.length) w33 (by omega) (by omega) HOr24.out HOr25.out 1 rfl).mono ?_
        rintro e w34 ⟨rfl, hb⟩
        replace xpw1_0 := (hb.cell (p := ⟨pw1, 0, none⟩) hpw1).trans xpw1_0
        replace xpw1_1 := (hb.cell (p := ⟨pw1, 1, none⟩) hpw1).trans xpw1_1
        replace xpw1_2 := (hb.cell (p := ⟨pw1, 2, none⟩) hpw1).trans xpw1_2
        replace xpw1_3 := (hb.cell (p := ⟨pw1, 3, none⟩) hpw1).trans xpw1_3
        replace xpw1_4 := (hb.cell (p := ⟨pw1, 4, none⟩) hpw1).trans xpw1_4
        replace xpw1_5 := (hb.cell (p := ⟨pw1, 5, none⟩) hpw1).trans xpw1_5
        replace hpw1 := Nat.lt_of_lt_of_le hpw1 hb.size
        replace xpw2_0 := (hb.cell (p := ⟨pw2, 0, none⟩) hpw2).trans xpw2_0
        replace xpw2_1 := (hb.cell (p := ⟨pw2, 1, none⟩) hpw2).trans xpw2_1
        replace xpw2_2 := (hb.cell (p := ⟨pw2, 2, none⟩) hpw2).trans xpw2_2
        replace xpw2_3 := (hb.cell (p := ⟨pw2, 3, none⟩) hpw2).trans xpw2_3
        replace hpw2 := Nat.lt_of_lt_of_le hpw2 hb.size
        replace xp9_0 := (hb.cell (p := ⟨p9, 0, none⟩) hp9).trans xp9_0
        replace xp9_1 := (hb.cell (p := ⟨p9, 1, none⟩) hp9).trans xp9_1
        replace xp9_2 := (hb.cell (p := ⟨p9, 2, none⟩) hp9).trans xp9_2
        replace xp9_3 := (hb.cell (p := ⟨p9, 3, none⟩) hp9).trans xp9_3
        replace xp9_4 := (hb.cell (p := ⟨p9, 4, none⟩) hp9).trans xp9_4
        replace xp9_5 := (hb.cell (p := ⟨p9, 5, none⟩) hp9).trans xp9_5
        replace hp9 := Nat.lt_of_lt_of_le hp9 hb.size
        replace xpw17_0 := (hb.cell (p := ⟨pw17, 0, none⟩) hpw17).trans xpw17_0
        replace xpw17_1 := (hb.cell (p := ⟨pw17, 1, none⟩) hpw17).trans xpw17_1
        replace xpw17_2 := (hb.cell (p := ⟨pw17, 2, none⟩) hpw17).trans xpw17_2
        replace xpw17_3 := (hb.cell (p := ⟨pw17, 3, none⟩) hpw17).trans xpw17_3
        replace xpw17_4 := (hb.cell (p := ⟨pw17, 4, none⟩) hpw17).trans xpw17_4
        replace xpw17_5 := (hb.cell (p := ⟨pw17, 5, none⟩) hpw17).trans xpw17_5
        replace hpw17 := Nat.lt_of_lt_of_le hpw17 hb.size
        replace xpw22_0 := (hb.cell (p := ⟨pw22, 0, none⟩) hpw22).trans xpw22_0
        replace xpw22_1 := (hb.cell (p := ⟨pw22, 1, none⟩) hpw22).trans xpw22_1
        replace xpw22_2 := (hb.cell (p := ⟨pw22, 2, none⟩) hpw22).trans xpw22_2
        replace xpw22_3 := (hb.cell (p := ⟨pw22, 3, none⟩) hpw22).trans xpw22_3
        replace hpw22 := Nat.lt_of_lt_of_le hpw22 hb.size
        replace xpw26_0 := (hb.cell (p := ⟨pw26, 0, none⟩) hpw26).trans xpw26_0
        replace xpw26_1 := (hb.cell (p := ⟨pw26, 1, none⟩) hpw26).trans xpw26_1
        replace xpw26_2 := (hb.cell (p := ⟨pw26, 2, none⟩) hpw26).trans xpw26_2
        replace xpw26_3 := (hb.cell (p := ⟨pw26, 3, none⟩) hpw26).trans xpw26_3
        replace xpw26_4 := (hb.cell (p := ⟨pw26, 4, none⟩) hpw26).trans xpw26_4
        replace xpw26_5 := (hb.cell (p := ⟨pw26, 5, none⟩) hpw26).trans xpw26_5
        replace hpw26 := Nat.lt_of_lt_of_le hpw26 hb.size
        replace HB := Lib.hid (HB.out.trans (hb.mono hz))
        replace hz := Nat.le_trans hz hb.size
        have HZw34 := Lib.hid hb.size
        replace HOr10 := Lib.hid (HOr10.out.later hb)
        replace HOr11 := Lib.hid (HOr11.out.later hb)
        replace HOr15 := Lib.hid (HOr15.out.later hb)
        replace HOr16 := Lib.hid (HOr16.out.later hb)
        replace HOr20 := Lib.hid (HOr20.out.later hb)
        replace HOr21 := Lib.hid (HOr21.out.later hb)
        replace HOr24 := Lib.hid (HOr24.out.later hb)
        replace HOr25 := Lib.hid (HOr25.out.later hb)
        replace HA0 := Lib.hid (HA0.out.later hb)
        replace HM0 := Lib.hid (HM0.out.later hb)
        replace HA2 := Lib.hid (HA2.out.later hb)
        replace HM2 := Lib.hid (HM2.out.later hb)
        clear hb
        go_wp2_with fail
        go_upto_region 31 with (fail)
        go_cut [17, 18] (fun b0 b1 wx => ∃ (p0 : Nat) (xI xS : Value), b0 = .pointer (some ⟨p0, 0, none⟩) ∧ b1 = .bool T7 ∧ kit.BoxC wx p0 28 #[.int .i64 T3, .int .i64 T4, .int .i64 T5, .int .i64 T6, xI, xS] ∧ kit.OwnI (w34.heap.size) wx xI T1 ∧ kit.OwnI (w34.heap.size) wx xS T2 ∧ w34.heap.size ≤ p0 ∧ Below (w34.heap.size) w34 wx ∧ kit.Apart xI xS)
        case first =>
          refine kit.region_inv (m := 10) [99, 100, 101, 102, 103, 104, 98, 105, 106, 17] [8] (kit.Fs [kit.isV (.agg #[.int .i64 x0, .int .i64 y0, .int .i64 s0, .int .i64 t0, .slice a0 L0.length c0, .slice b0 M0.length d0]), kit.isA2 (w34.heap.size) false (fun p q => .agg #[.int .i64 x0, .int .i64 y0, .int .i64 s0, .int .i64 t0, p, q]) L0 M0, kit.isV (.int .i64 a1), kit.isV (.agg #[.int .i64 x2, .int .i64 y2, .slice a2 L2.length c2, .slice b2 M2.length d2]), kit.isA2 (w34.heap.size) false (fun p q => .agg #[.int .i64 x2, .int .i64 y2, p, q]) L2 M2, kit.isA2 (w34.heap.size) true (fun p q => .tuple #[.agg #[.int .i64 T3, .int .i64 T4, .int .i64 T5, .int .i64 T6, p, q], .bool T7]) T1 T2, kit.isA2 (w34.heap.size) true (fun p q => .tuple #[.agg #[.int .i64 T3, .int .i64 T4, .int .i64 T5, .int .i64 T6, p, q], .bool T7]) T1 T2, kit.isA2 (w34.heap.size) true (fun p q => .agg #[.int .i64 T3, .int .i64 T4, .int .i64 T5, .int .i64 T6, p, q]) T1 T2, kit.isV (.bool T7), kit.isC (w34.heap.size) 28 #[.int .i64 0, .int .i64 0, .int .i64 0, .int .i64 0, .slice none 0 0, .slice none 0 0]]) (by kernel_rfl) (by decide) rfl (by decide) (by kernel_rfl) (by kernel_rfl) (by kernel_rfl) (fun _ _ _ _ _ h => h) (kit.Fs_mono ⟨kit.isV_mono _, kit.isA2_mono _ _ _ _ _, kit.isV_mono _, kit.isV_mono _, kit.isA2_mono _ _ _ _ _, kit.isA2_mono _ _ _ _ _, kit.isA2_mono _ _ _ _ _, kit.isA2_mono _ _ _ _ _, kit.isV_mono _, kit.isC_mono _ _ _, trivial⟩) ?step ?float ?tail
          case float =>
            intro f hf vs wq hd
            simp only [List.mem_cons, List.not_mem_nil, or_false] at hf
            subst hf
            · obtain ⟨x1, x2, e6', h1, h2, h3⟩ : (kit.isA2 (w34.heap.size) true (fun p q => .tuple #[.agg #[.int .i64 T3, .int .i64 T4, .int .i64 T5, .int .i64 T6, p, q], .bool T7]) T1 T2) (vs 6) wq := hd 6 (List.contains_iff_mem.1 (by kernel_rfl))
              have e6 : vs 6 = .tuple #[.agg #[.int .i64 T3, .int .i64 T4, .int .i64 T5, .int .i64 T6, x1, x2], .bool T7] := e6'
              refine ⟨_, .bool T7, rfl, rfl, .inl ⟨by rfl, fun w9 => ?_⟩, rfl⟩
              simp only [kit.lay, Act.put, List.setIfInBounds_toArray, List.set_cons_zero, List.set_cons_succ, List.getD_cons_zero, List.getD_cons_succ, id_eq]
              rw [e6]
              go_simp
          case step =>
            intro i hi vs wq hBq hd
            rcases (show i = 0 ∨ i = 1 ∨ i = 2 ∨ i = 3 ∨ i = 4 ∨ i = 5 ∨ i = 6 ∨ i = 7 ∨ i = 8 ∨ i = 9 from by omega) with rfl | rfl | rfl | rfl | rfl | rfl | rfl | rfl | rfl | rfl
            · have zpw1_0 := (hBq.cell (p := ⟨pw1, 0, none⟩) hpw1).trans xpw1_0
              have zpw1_1 := (hBq.cell (p := ⟨pw1, 1, none⟩) hpw1).trans xpw1_1
              have zpw1_2 := (hBq.cell (p := ⟨pw1, 2, none⟩) hpw1).trans xpw1_2
              have zpw1_3 := (hBq.cell (p := ⟨pw1, 3, none⟩) hpw1).trans xpw1_3
              have zpw1_4 := (hBq.cell (p := ⟨pw1, 4, none⟩) hpw1).trans xpw1_4
              have zpw1_5 := (hBq.cell (p := ⟨pw1, 5, none⟩) hpw1).trans xpw1_5
              refine wpOp_step (o := _) rfl (fun K' hK => ?_)
              have HK := Lib.hid hK
              clear hK
              simp only [kit.lay, Act.put, List.setIfInBounds_toArray, List.set_cons_zero, List.set_cons_succ, List.getD_cons_zero, List.getD_cons_succ, id_eq]
              go_simp
              refine HK.out _ _ ⟨_, ?_, Below.refl _ _, rfl⟩
              simp only [kit.lay, Act.put, List.setIfInBounds_toArray, List.set_cons_zero, List.set_cons_succ, List.getD_cons_zero, List.getD_cons_succ, id_eq]
            · have e0 : vs 0 = .agg #[.int .i64 x0, .int .i64 y0, .int .i64 s0, .int .i64 t0, .slice a0 L0.length c0, .slice b0 M0.length d0] := hd 0 (List.contains_iff_mem.1 (by kernel_rfl))
              refine wpOp_step (o := _) rfl (fun K' hK => ?_)
              have HK := Lib.hid hK
              clear hK
              simp only [kit.lay, Act.put, List.setIfInBounds_toArray, List.set_cons_zero, List.set_cons_succ, List.getD_cons_zero, List.getD_cons_succ, id_eq]
              rw [e0]
              go_simp
              go_at_call 20
              refine (kit.toAcceptor x0 y0 s0 t0 a0 c0 L0 b0 d0 M0 wq (by omega) (by omega) (HA0.out.later hBq) (HM0.out.later hBq)).mono ?_
              rintro e w2 ⟨x1, x2, rfl, h1, h2, hb, hap⟩
              refine HK.out _ _ ⟨_, ?_, hb, x1, x2, rfl, h1.mono hBq.size, h2.mono hBq.size, fun h => by cases h⟩
              simp only [kit.lay, Act.put, List.setIfInBounds_toArray, List.set_cons_zero, List.set_cons_succ, List.getD_cons_zero, List.getD_cons_succ, id_eq]
              rw [e0]
            · refine wpOp_step (o := _) rfl (fun K' hK => ?_)
              have HK := Lib.hid hK
              clear hK
              simp only [kit.lay, Act.put, List.setIfInBounds_toArray, List.set_cons_zero, List.set_cons_succ, List.getD_cons_zero, List.getD_cons_succ, id_eq]
              go_simp
              refine HK.out _ _ ⟨_, ?_, Below.refl _ _, rfl⟩
              simp only [kit.lay, Act.put, List.setIfInBounds_toArray, List.set_cons_zero, List.set_cons_succ, List.getD_cons_zero, List.getD_cons_succ, id_eq]
            · have zpw2_0 := (hBq.cell (p := ⟨pw2, 0, none⟩) hpw2).trans xpw2_0
              have zpw2_1 := (hBq.cell (p := ⟨pw2, 1, none⟩) hpw2).trans xpw2_1
              have zpw2_2 := (hBq.cell (p := ⟨pw2, 2, none⟩) hpw2).trans xpw2_2
              have zpw2_3 := (hBq.cell (p := ⟨pw2, 3, none⟩) hpw2).trans xpw2_3
              refine wpOp_step (o := _) rfl (fun K' hK => ?_)
              have HK := Lib.hid hK
              clear hK
              simp only [kit.lay, Act.put, List.setIfInBounds_toArray, List.set_cons_zero, List.set_cons_succ, List.getD_cons_zero, List.getD_cons_succ, id_eq]
              go_simp
              refine HK.out _ _ ⟨_, ?_, Below.refl _ _, rfl⟩
              simp only [kit.lay, Act.put, List.setIfInBounds_toArray, List.set_cons_zero, List.set_cons_succ, List.getD_cons_zero, List.getD_cons_succ, id_eq]
            · have e3 : vs 3 = .agg #[.int .i64 x2, .int .i64 y2, .slice a2 L2.length c2, .slice b2 M2.length d2] := hd 3 (List.contains_iff_mem.1 (by kernel_rfl))
              refine wpOp_step (o := _) rfl (fun K' hK => ?_)
              have HK := Lib.hid hK
              clear hK
              simp only [kit.lay, Act.put, List.setIfInBounds_toArray, List.set_cons_zero, List.set_cons_succ, List.getD_cons_zero, List.getD_cons_succ, id_eq]
              rw [e3]
              go_simp
              go_at_call 25
              refine (kit.toConfig x2 y2 a2 c2 L2 b2 d2 M2 wq (by omega) (by omega) (HA2.out.later hBq) (HM2.out.later hBq)).mono ?_
              rintro e w2 ⟨x1, x2, rfl, h1, h2, hb, hap⟩
              refine HK.out _ _ ⟨_, ?_, hb, x1, x2, rfl, h1.mono hBq.size, h2.mono hBq.size, fun h => by cases h⟩
              simp only [kit.lay, Act.put, List.setIfInBounds_toArray, List.set_cons_zero, List.set_cons_succ, List.getD_cons_zero, List.getD_cons_succ, id_eq]
              rw [e3]
            · obtain ⟨xr35, xr36, e1', hor35, hor36, _⟩ : kit.isA2 (w34.heap.size) false (fun p q => .agg #[.int .i64 x0, .int .i64 y0, .int .i64 s0, .int .i64 t0, p, q]) L0 M0 (vs 1) wq := hd 1 (List.contains_iff_mem.1 (by kernel_rfl))
              obtain ⟨yr35, qr35, rfl⟩ := hor35.shape
              obtain ⟨yr36, qr36, rfl⟩ := hor36.shape
              have e1 : vs 1 = .agg #[.int .i64 x0, .int .i64 y0, .int .i64 s0, .int .i64 t0, .slice yr35 L0.length qr35, .slice yr36 M0.length qr36] := e1'
              have HOr35 := Lib.hid hor35
              have HOr36 := Lib.hid hor36
              have e2 : vs 2 = .int .i64 a1 := hd 2 (List.contains_iff_mem.1 (by kernel_rfl))
              obtain ⟨xr37, xr38, e4', hor37, hor38, _⟩ : kit.isA2 (w34.heap.size) false (fun p q => .agg #[.int .i64 x2, .int .i64 y2, p, q]) L2 M2 (vs 4) wq := hd 4 (List.contains_iff_mem.1 (by kernel_rfl))
              obtain ⟨yr37, qr37, rfl⟩ := hor37.shape
              obtain ⟨yr38, qr38, rfl⟩ := hor38.shape
              have e4 : vs 4 = .agg #[.int .i64 x2, .int .i64 y2, .slice yr37 L2.length qr37, .slice yr38 M2.length qr38] := e4'
              have HOr37 := Lib.hid hor37
              have HOr38 := Lib.hid hor38
              refine wpOp_step (o := _) rfl (fun K' hK => ?_)
              have HK := Lib.hid hK
              clear hK
              simp only [kit.lay, Act.put, List.setIfInBounds_toArray, List.set_cons_zero, List.set_cons_succ, List.getD_cons_zero, List.getD_cons_succ, id_eq]
              rw [e1, e2, e4]
              go_simp
              go_at_call 14
              refine (kit.implAccept x0 y0 s0 t0 _ _ (.slice yr35 L0.length qr35) (.slice yr36 M0.length qr36) L0 M0 a1 x2 y2 _ _ (.slice yr37 L2.length qr37) (.slice yr38 M2.length qr38) L2 M2 wq (by omega) (by omega) HOr35.out HOr36.out (by omega) (by omega) HOr37.out HOr38.out).mono ?_
              rintro e w2 ⟨x1, x2, he, h1, h2, hb, hap⟩
              rw [HT1.out] at h1
              rw [HT2.out] at h2
              rw [HT3.out] at he
              rw [HT4.out] at he
              rw [HT5.out] at he
              rw [HT6.out] at he
              rw [HT7.out] at he
              subst he
              refine HK.out _ _ ⟨_, ?_, hb, x1, x2, rfl, h1.mono hBq.size, h2.mono hBq.size, fun _ => hap⟩
              simp only [kit.lay, Act.put, List.setIfInBounds_toArray, List.set_cons_zero, List.set_cons_succ, List.getD_cons_zero, List.getD_cons_succ, id_eq]
              rw [e1, e2, e4]
            · have f5 : (kit.isA2 (w34.heap.size) true (fun p q => .tuple #[.agg #[.int .i64 T3, .int .i64 T4, .int .i64 T5, .int .i64 T6, p, q], .bool T7]) T1 T2) (vs 5) wq := hd 5 (List.contains_iff_mem.1 (by kernel_rfl))
              refine wpOp_step (o := _) rfl (fun K' hK => ?_)
              have HK := Lib.hid hK
              clear hK
              simp only [kit.lay, Act.put, List.setIfInBounds_toArray, List.set_cons_zero, List.set_cons_succ, List.getD_cons_zero, List.getD_cons_succ, id_eq]
              go_simp
              refine HK.out _ _ ⟨_, ?_, Below.refl _ _, f5⟩
              simp only [kit.lay, Act.put, List.setIfInBounds_toArray, List.set_cons_zero, List.set_cons_succ, List.getD_cons_zero, List.getD_cons_succ, id_eq]
            · obtain ⟨x1, x2, e6', h1, h2, h3⟩ : (kit.isA2 (w34.heap.size) true (fun p q => .tuple #[.agg #[.int .i64 T3, .int .i64 T4, .int .i64 T5, .int .i64 T6, p, q], .bool T7]) T1 T2) (vs 6) wq := hd 6 (List.contains_iff_mem.1 (by kernel_rfl))
              have e6 : vs 6 = .tuple #[.agg #[.int .i64 T3, .int .i64 T4, .int .i64 T5, .int .i64 T6, x1, x2], .bool T7] := e6'
              refine wpOp_step (o := _) rfl (fun K' hK => ?_)
              have HK := Lib.hid hK
              clear hK
              simp only [kit.lay, Act.put, List.setIfInBounds_toArray, List.set_cons_zero, List.set_cons_succ, List.getD_cons_zero, List.getD_cons_succ, id_eq]
              rw [e6]
              go_simp
              refine HK.out _ _ ⟨_, ?_, Below.refl _ _, x1, x2, rfl, h1, h2, h3⟩
              simp only [kit.lay, Act.put, List.setIfInBounds_toArray, List.set_cons_zero, List.set_cons_succ, List.getD_cons_zero, List.getD_cons_succ, id_eq]
              rw [e6]
            · obtain ⟨x1, x2, e6', h1, h2, h3⟩ : (kit.isA2 (w34.heap.size) true (fun p q => .tuple #[.agg #[.int .i64 T3, .int .i64 T4, .int .i64 T5, .int .i64 T6, p, q], .bool T7]) T1 T2) (vs 6) wq := hd 6 (List.contains_iff_mem.1 (by kernel_rfl))
              have e6 : vs 6 = .tuple #[.agg #[.int .i64 T3, .int .i64 T4, .int .i64 T5, .int .i64 T6, x1, x2], .bool T7] := e6'
              refine wpOp_step (o := _) rfl (fun K' hK => ?_)
              have HK := Lib.hid hK
              clear hK
              simp only [kit.lay, Act.put, List.setIfInBounds_toArray, List.set_cons_zero, List.set_cons_succ, List.getD_cons_zero, List.getD_cons_succ, id_eq]
              rw [e6]
              go_simp
              refine HK.out _ _ ⟨_, ?_, Below.refl _ _, rfl⟩
              simp only [kit.lay, Act.put, List.setIfInBounds_toArray, List.set_cons_zero, List.set_cons_succ, List.getD_cons_zero, List.getD_cons_succ, id_eq]
              rw [e6]
            · refine wpOp_step (o := _) rfl (fun K' hK => ?_)
              have HK := Lib.hid hK
              clear hK
              simp only [kit.lay, Act.put, List.setIfInBounds_toArray, List.set_cons_zero, List.set_cons_succ, List.getD_cons_zero, List.getD_cons_succ, id_eq]
              go_simp
              refine HK.out _ _ ⟨_, ?_, (Below.refl _ _).alloc (Nat.le_refl _) _, _, rfl, kit.BoxC.new _ _ _, hBq.size⟩
              simp only [kit.lay, Act.put, List.setIfInBounds_toArray, List.set_cons_zero, List.set_cons_succ, List.getD_cons_zero, List.getD_cons_succ, id_eq]
          case tail =>
            intro vs wq hBq hf
            obtain ⟨xI, xS, e7', hI, hS, h3⟩ : kit.isA2 (w34.heap.size) true (fun p q => .agg #[.int .i64 T3, .int .i64 T4, .int .i64 T5, .int .i64 T6, p, q]) T1 T2 (vs 7) wq := hf 7 (by decide)
            obtain ⟨yI, qI, rfl⟩ := hI.shape
            obtain ⟨yS, qS, rfl⟩ := hS.shape
            have e7 : vs 7 = .agg #[.int .i64 T3, .int .i64 T4, .int .i64 T5, .int .i64 T6, .slice yI T1.length qI, .slice yS T2.length qS] := e7'
            have e8 : vs 8 = .bool T7 := hf 8 (by decide)
            obtain ⟨p0, e9, b0, n0⟩ : kit.isC (w34.heap.size) 28 #[.int .i64 0, .int .i64 0, .int .i64 0, .int .i64 0, .slice none 0 0, .slice none 0 0] (vs 9) wq := hf 9 (by decide)
            simp only [kit.lay, Act.put, List.setIfInBounds_toArray, List.set_cons_zero, List.set_cons_succ, List.getD_cons_zero, List.getD_cons_succ, id_eq]
            rw [e7, e8, e9]
            clear e7 e8 e9 e7'
            refine kit.any_all (rs := [10]) (by kernel_rfl) (by simp) ?_
            intro i hi
            simp only [List.mem_cons, List.not_mem_nil, or_false] at hi
            subst hi
            refine wpOp_step (o := _) rfl (fun K' hK => ?_)
            have HK := Lib.hid hK
            clear hK
            have kc0 := b0.c 0 rfl
            have kf0 := b0.f 0
            have kc1 := b0.c 1 rfl
            have kf1 := b0.f 1
            have kc2 := b0.c 2 rfl
            have kf2 := b0.f 2
            have kc3 := b0.c 3 rfl
            have kf3 := b0.f 3
            have kc4 := b0.c 4 rfl
            have kf4 := b0.f 4
            have kc5 := b0.c 5 rfl
            have kf5 := b0.f 5
            go_simp
            refine HK.out _ _ ?_
            clear HK K' kc0 kf0 kc1 kf1 kc2 kf2 kc3 kf3 kc4 kf4 kc5 kf5
            try simp only [Act.put, List.setIfInBounds_toArray, List.set_cons_zero, List.set_cons_succ]
            obtain ⟨wt, hW⟩ : ∃ W, W = ((((((wq.setCell ⟨p0, 0, none⟩ (.int .i64 T3)).setCell ⟨p0, 1, none⟩ (.int .i64 T4)).setCell ⟨p0, 2, none⟩ (.int .i64 T5)).setCell ⟨p0, 3, none⟩ (.int .i64 T6)).setCell ⟨p0, 4, none⟩ (.slice yI T1.length qI)).setCell ⟨p0, 5, none⟩ (.slice yS T2.length qS)) := ⟨_, rfl⟩
            rw [← hW]
            replace hI : kit.OwnI (w34.heap.size) wt _ T1 := hW ▸ kit.put6 hI b0 (by decide) _ _ _ _ _ _
            replace hS : kit.OwnI (w34.heap.size) wt _ T2 := hW ▸ kit.put6 hS b0 (by decide) _ _ _ _ _ _
            have hB9 : Below (w34.heap.size) w34 wt := hW ▸ kit.below6 hBq n0 _ _ _ _ _ _
            replace b0 : kit.BoxC wt p0 28 #[.int .i64 T3, .int .i64 T4, .int .i64 T5, .int .i64 T6, .slice yI T1.length qI, .slice yS T2.length qS] := hW ▸ ((((((b0.put 0 _).put 1 _).put 2 _).put 3 _).put 4 _).put 5 _)
            clear hW
            refine kit.any_all (rs := [11]) (by kernel_rfl) (by simp) ?_
            intro i hi
            simp only [List.mem_cons, List.not_mem_nil, or_false] at hi
            subst hi
            refine wpOp_step (o := _) rfl (fun K' hK => ?_)
            have HK := Lib.hid hK
            clear hK
            go_simp
            refine HK.out _ _ ?_
            clear HK K'
            try simp only [Act.put, List.setIfInBounds_toArray, List.set_cons_zero, List.set_cons_succ]
            refine kit.any_done (by kernel_rfl) ?_ _
            go_wp2_with fail
            go_meet
            exact ⟨p0, _, _, rfl, rfl, b0, hI, hS, n0, hB9, h3 (by simp)⟩
        case rest =>
          obtain ⟨p0, xI, xS, rfl, rfl, b0, hoI, hoS, n0, hb, hap⟩ := hcut
          obtain ⟨p39, rfl⟩ : ∃ p, p = p0 := ⟨_, rfl⟩
          obtain ⟨yr40, qr40, rfl⟩ := hoI.shape
          obtain ⟨yr41, qr41, rfl⟩ := hoS.shape
          have HPr40 := Lib.hid hap
          clear hap
          replace xpw1_0 := (hb.cell (p := ⟨pw1, 0, none⟩) hpw1).trans xpw1_0
          replace xpw1_1 := (hb.cell (p := ⟨pw1, 1, none⟩) hpw1).trans xpw1_1
          replace xpw1_2 := (hb.cell (p := ⟨pw1, 2, none⟩) hpw1).trans xpw1_2
          replace xpw1_3 := (hb.cell (p := ⟨pw1, 3, none⟩) hpw1).trans xpw1_3
          replace xpw1_4 := (hb.cell (p := ⟨pw1, 4, none⟩) hpw1).trans xpw1_4
          replace xpw1_5 := (hb.cell (p := ⟨pw1, 5, none⟩) hpw1).trans xpw1_5
          replace hpw1 := Nat.lt_of_lt_of_le hpw1 hb.size
          replace xpw2_0 := (hb.cell (p := ⟨pw2, 0, none⟩) hpw2).trans xpw2_0
          replace xpw2_1 := (hb.cell (p := ⟨pw2, 1, none⟩) hpw2).trans xpw2_1
          replace xpw2_2 := (hb.cell (p := ⟨pw2, 2, none⟩) hpw2).trans xpw2_2
          replace xpw2_3 := (hb.cell (p := ⟨pw2, 3, none⟩) hpw2).trans xpw2_3
          replace hpw2 := Nat.lt_of_lt_of_le hpw2 hb.size
          replace xp9_0 := (hb.cell (p := ⟨p9, 0, none⟩) hp9).trans xp9_0
          replace xp9_1 := (hb.cell (p := ⟨p9, 1, none⟩) hp9).trans xp9_1
          replace xp9_2 := (hb.cell (p := ⟨p9, 2, none⟩) hp9).trans xp9_2
          replace xp9_3 := (hb.cell (p := ⟨p9, 3, none⟩) hp9).trans xp9_3
          replace xp9_4 := (hb.cell (p := ⟨p9, 4, none⟩) hp9).trans xp9_4
          replace xp9_5 := (hb.cell (p := ⟨p9, 5, none⟩) hp9).trans xp9_5
          replace hp9 := Nat.lt_of_lt_of_le hp9 hb.size
          replace xpw17_0 := (hb.cell (p := ⟨pw17, 0, none⟩) hpw17).trans xpw17_0
          replace xpw17_1 := (hb.cell (p := ⟨pw17, 1, none⟩) hpw17).trans xpw17_1
          replace xpw17_2 := (hb.cell (p := ⟨pw17, 2, none⟩) hpw17).trans xpw17_2
          replace xpw17_3 := (hb.cell (p := ⟨pw17, 3, none⟩) hpw17).trans xpw17_3
          replace xpw17_4 := (hb.cell (p := ⟨pw17, 4, none⟩) hpw17).trans xpw17_4
          replace xpw17_5 := (hb.cell (p := ⟨pw17, 5, none⟩) hpw17).trans xpw17_5
          replace hpw17 := Nat.lt_of_lt_of_le hpw17 hb.size
          replace xpw22_0 := (hb.cell (p := ⟨pw22, 0, none⟩) hpw22).trans xpw22_0
          replace xpw22_1 := (hb.cell (p := ⟨pw22, 1, none⟩) hpw22).trans xpw22_1
          replace xpw22_2 := (hb.cell (p := ⟨pw22, 2, none⟩) hpw22).trans xpw22_2
          replace xpw22_3 := (hb.cell (p := ⟨pw22, 3, none⟩) hpw22).trans xpw22_3
          replace hpw22 := Nat.lt_of_lt_of_le hpw22 hb.size
          replace xpw26_0 := (hb.cell (p := ⟨pw26, 0, none⟩) hpw26).trans xpw26_0
          replace xpw26_1 := (hb.cell (p := ⟨pw26, 1, none⟩) hpw26).trans xpw26_1
          replace xpw26_2 := (hb.cell (p := ⟨pw26, 2, none⟩) hpw26).trans xpw26_2
          replace xpw26_3 := (hb.cell (p := ⟨pw26, 3, none⟩) hpw26).trans xpw26_3
          replace xpw26_4 := (hb.cell (p := ⟨pw26, 4, none⟩) hpw26).trans xpw26_4
          replace xpw26_5 := (hb.cell (p := ⟨pw26, 5, none⟩) hpw26).trans xpw26_5
          replace hpw26 := Nat.lt_of_lt_of_le hpw26 hb.size
          replace HB := Lib.hid (HB.out.trans (hb.mono hz))
          replace hz := Nat.le_trans hz hb.size
          have HZwc := Lib.hid hb.size
          replace HOr10 := Lib.hid (HOr10.out.later hb)
          replace HOr11 := Lib.hid (HOr11.out.later hb)
          replace HOr15 := Lib.hid (HOr15.out.later hb)
          replace HOr16 := Lib.hid (HOr16.out.later hb)
          replace HOr20 := Lib.hid (HOr20.out.later hb)
          replace HOr21 := Lib.hid (HOr21.out.later hb)
          replace HOr24 := Lib.hid (HOr24.out.later hb)
          replace HOr25 := Lib.hid (HOr25.out.later hb)
          replace HA0 := Lib.hid (HA0.out.later hb)
          replace HM0 := Lib.hid (HM0.out.later hb)
          replace HA2 := Lib.hid (HA2.out.later hb)
          replace HM2 := Lib.hid (HM2.out.later hb)
          have HOr40 := Lib.hid hoI
          have HUr40 := Lib.hid (fun g (hg : (.slice yr40 T1.length qr40 : Value).ownBlock = some g) => (⟨(hoI.block g hg).1, (hoI.block g hg).2, kit.row_clear hoI b0 (by decide) g hg⟩ : w34.heap.size ≤ g ∧ g < wc.heap.size ∧ g ≠ p39))
          have HOr41 := Lib.hid hoS
          have HUr41 := Lib.hid (fun g (hg : (.slice yr41 T2.length qr41 : Value).ownBlock = some g) => (⟨(hoS.block g hg).1, (hoS.block g hg).2, kit.row_clear hoS b0 (by decide) g hg⟩ : w34.heap.size ≤ g ∧ g < wc.heap.size ∧ g ≠ p39))
          have hp39 := b0.lt
          have xp39_0 := b0.c 0 rfl
          have xp39_1 := b0.c 1 rfl
          have xp39_2 := b0.c 2 rfl
          have xp39_3 := b0.c 3 rfl
          have xp39_4 := b0.c 4 rfl
          have xp39_5 := b0.c 5 rfl
          have Ep39 := Lib.hid n0
          have Sp39 := Lib.hid b0.lt
          clear b0 n0 hoI hoS hb
          obtain ⟨w42, rfl⟩ : ∃ W, W = wc := ⟨_, rfl⟩
          go_wp2_with fail
          refine (kit.eqAcceptorO T3 T4 T5 T6 _ _ (.slice yr40 T1.length qr40) (.slice yr41 T2.length qr41) T1 T2 T3 T4 T5 T6 _ _ (.slice yr10 T1.length qr10) (.slice yr11 T2.length qr11) T1 T2 w42 (by omega) (by omega) HOr40.out HOr41.out (by omega) (by omega) HOr10.out HOr11.out).mono ?_
          rintro e w43 ⟨he, hb⟩
          rw [decide_eq_true ⟨rfl, rfl, rfl, rfl, rfl, rfl⟩] at he
          subst he
          replace xpw1_0 := (hb.cell (p := ⟨pw1, 0, none⟩) hpw1).trans xpw1_0
          replace xpw1_1 := (hb.cell (p := ⟨pw1, 1, none⟩) hpw1).trans xpw1_1
          replace xpw1_2 := (hb.cell (p := ⟨pw1, 2, none⟩) hpw1).trans xpw1_2
          replace xpw1_3 := (hb.cell (p := ⟨pw1, 3, none⟩) hpw1).trans xpw1_3
          replace xpw1_4 := (hb.cell (p := ⟨pw1, 4, none⟩) hpw1).trans xpw1_4
          replace xpw1_5 := (hb.cell (p := ⟨pw1, 5, none⟩) hpw1).trans xpw1_5
          replace hpw1 := Nat.lt_of_lt_of_le hpw1 hb.size
          replace xpw2_0 := (hb.cell (p := ⟨pw2, 0, none⟩) hpw2).trans xpw2_0
          replace xpw2_1 := (hb.cell (p := ⟨pw2, 1, none⟩) hpw2).trans xpw2_1
          replace xpw2_2 := (hb.cell (p := ⟨pw2, 2, none⟩) hpw2).trans xpw2_2
          replace xpw2_3 := (hb.cell (p := ⟨pw2, 3, none⟩) hpw2).trans xpw2_3
          replace hpw2 := Nat.lt_of_lt_of_le hpw2 hb.size
          replace xp9_0 := (hb.cell (p := ⟨p9, 0, none⟩) hp9).trans xp9_0
          replace xp9_1 := (hb.cell (p := ⟨p9, 1, none⟩) hp9).trans xp9_1
          replace xp9_2 := (hb.cell (p := ⟨p9, 2, none⟩) hp9).trans xp9_2
          replace xp9_3 := (hb.cell (p := ⟨p9, 3, none⟩) hp9).trans xp9_3
          replace xp9_4 := (hb.cell (p := ⟨p9, 4, none⟩) hp9).trans xp9_4
          replace xp9_5 := (hb.cell (p := ⟨p9, 5, none⟩) hp9).trans xp9_5
          replace hp9 := Nat.lt_of_lt_of_le hp9 hb.size
          replace xpw17_0 := (hb.cell (p := ⟨pw17, 0, none⟩) hpw17).trans xpw17_0
          replace xpw17_1 := (hb.cell (p := ⟨pw17, 1, none⟩) hpw17).trans xpw17_1
          replace xpw17_2 := (hb.cell (p := ⟨pw17, 2, none⟩) hpw17).trans xpw17_2
          replace xpw17_3 := (hb.cell (p := ⟨pw17, 3, none⟩) hpw17).trans xpw17_3
          replace xpw17_4 := (hb.cell (p := ⟨pw17, 4, none⟩) hpw17).trans xpw17_4
          replace xpw17_5 := (hb.cell (p := ⟨pw17, 5, none⟩) hpw17).trans xpw17_5
          replace hpw17 := Nat.lt_of_lt_of_le hpw17 hb.size
          replace xpw22_0 := (hb.cell (p := ⟨pw22, 0, none⟩) hpw22).trans xpw22_0
          replace xpw22_1 := (hb.cell (p := ⟨pw22, 1, none⟩) hpw22).trans xpw22_1
          replace xpw22_2 := (hb.cell (p := ⟨pw22, 2, none⟩) hpw22).trans xpw22_2
          replace xpw22_3 := (hb.cell (p := ⟨pw22, 3, none⟩) hpw22).trans xpw22_3
          replace hpw22 := Nat.lt_of_lt_of_le hpw22 hb.size
          replace xpw26_0 := (hb.cell (p := ⟨pw26, 0, none⟩) hpw26).trans xpw26_0
          replace xpw26_1 := (hb.cell (p := ⟨pw26, 1, none⟩) hpw26).trans xpw26_1
          replace xpw26_2 := (hb.cell (p := ⟨pw26, 2, none⟩) hpw26).trans xpw26_2
          replace xpw26_3 := (hb.cell (p := ⟨pw26, 3, none⟩) hpw26).trans xpw26_3
          replace xpw26_4 := (hb.cell (p := ⟨pw26, 4, none⟩) hpw26).trans xpw26_4
          replace xpw26_5 := (hb.cell (p := ⟨pw26, 5, none⟩) hpw26).trans xpw26_5
          replace hpw26 := Nat.lt_of_lt_of_le hpw26 hb.size
          replace xp39_0 := (hb.cell (p := ⟨p39, 0, none⟩) hp39).trans xp39_0
          replace xp39_1 := (hb.cell (p := ⟨p39, 1, none⟩) hp39).trans xp39_1
          replace xp39_2 := (hb.cell (p := ⟨p39, 2, none⟩) hp39).trans xp39_2
          replace xp39_3 := (hb.cell (p := ⟨p39, 3, none⟩) hp39).trans xp39_3
          replace xp39_4 := (hb.cell (p := ⟨p39, 4, none⟩) hp39).trans xp39_4
          replace xp39_5 := (hb.cell (p := ⟨p39, 5, none⟩) hp39).trans xp39_5
          replace hp39 := Nat.lt_of_lt_of_le hp39 hb.size
          replace HB := Lib.hid (HB.out.trans (hb.mono hz))
          replace hz := Nat.le_trans hz hb.size
          have HZw43 := Lib.hid hb.size
          replace HOr10 := Lib.hid (HOr10.out.later hb)
          replace HOr11 := Lib.hid (HOr11.out.later hb)
          replace HOr15 := Lib.hid (HOr15.out.later hb)
          replace HOr16 := Lib.hid (HOr16.out.later hb)
          replace HOr20 := Lib.hid (HOr20.out.later hb)
          replace HOr21 := Lib.hid (HOr21.out.later hb)
          replace HOr24 := Lib.hid (HOr24.out.later hb)
          replace HOr25 := Lib.hid (HOr25.out.later hb)
          replace HOr40 := Lib.hid (HOr40.out.later hb)
          replace HOr41 := Lib.hid (HOr41.out.later hb)
          replace HA0 := Lib.hid (HA0.out.later hb)
          replace HM0 := Lib.hid (HM0.out.later hb)
          replace HA2 := Lib.hid (HA2.out.later hb)
          replace HM2 := Lib.hid (HM2.out.later hb)
          clear hb
          go_wp2_with fail
          refine (kit.heldAcceptor T3 T4 T5 T6 _ _ (.slice yr24 T1.length qr24) (.slice yr25 T2.length qr25) (T1.length) (T2.length) w43 (by omega) (by omega) HOr24.out HOr25.out 1 rfl).mono ?_
          rintro e w44 ⟨rfl, hb⟩
          replace xpw1_0 := (hb.cell (p := ⟨pw1, 0, none⟩) hpw1).trans xpw1_0
          replace xpw1_1 := (hb.cell (p := ⟨pw1, 1, none⟩) hpw1).trans xpw1_1
          replace xpw1_2 := (hb.cell (p := ⟨pw1, 2, none⟩) hpw1).trans xpw1_2
          replace xpw1_3 := (hb.cell (p := ⟨pw1, 3, none⟩) hpw1).trans xpw1_3
          replace xpw1_4 := (hb.cell (p := ⟨pw1, 4, none⟩) hpw1).trans xpw1_4
          replace xpw1_5 := (hb.cell (p := ⟨pw1, 5, none⟩) hpw1).trans xpw1_5
          replace hpw1 := Nat.lt_of_lt_of_le hpw1 hb.size
          replace xpw2_0 := (hb.cell (p := ⟨pw2, 0, none⟩) hpw2).trans xpw2_0
          replace xpw2_1 := (hb.cell (p := ⟨pw2, 1, none⟩) hpw2).trans xpw2_1
          replace xpw2_2 := (hb.cell (p := ⟨pw2, 2, none⟩) hpw2).trans xpw2_2
          replace xpw2_3 := (hb.cell (p := ⟨pw2, 3, none⟩) hpw2).trans xpw2_3
          replace hpw2 := Nat.lt_of_lt_of_le hpw2 hb.size
          replace xp9_0 := (hb.cell (p := ⟨p9, 0, none⟩) hp9).trans xp9_0
          replace xp9_1 := (hb.cell (p := ⟨p9, 1, none⟩) hp9).trans xp9_1
          replace xp9_2 := (hb.cell (p := ⟨p9, 2, none⟩) hp9).trans xp9_2
          replace xp9_3 := (hb.cell (p := ⟨p9, 3, none⟩) hp9).trans xp9_3
          replace xp9_4 := (hb.cell (p := ⟨p9, 4, none⟩) hp9).trans xp9_4
          replace xp9_5 := (hb.cell (p := ⟨p9, 5, none⟩) hp9).trans xp9_5
          replace hp9 := Nat.lt_of_lt_of_le hp9 hb.size
          replace xpw17_0 := (hb.cell (p := ⟨pw17, 0, none⟩) hpw17).trans xpw17_0
          replace xpw17_1 := (hb.cell (p := ⟨pw17, 1, none⟩) hpw17).trans xpw17_1
          replace xpw17_2 := (hb.cell (p := ⟨pw17, 2, none⟩) hpw17).trans xpw17_2
          replace xpw17_3 := (hb.cell (p := ⟨pw17, 3, none⟩) hpw17).trans xpw17_3
          replace xpw17_4 := (hb.cell (p := ⟨pw17, 4, none⟩) hpw17).trans xpw17_4
          replace xpw17_5 := (hb.cell (p := ⟨pw17, 5, none⟩) hpw17).trans xpw17_5
          replace hpw17 := Nat.lt_of_lt_of_le hpw17 hb.size
          replace xpw22_0 := (hb.cell (p := ⟨pw22, 0, none⟩) hpw22).trans xpw22_0
          replace xpw22_1 := (hb.cell (p := ⟨pw22, 1, none⟩) hpw22).trans xpw22_1
          replace xpw22_2 := (hb.cell (p := ⟨pw22, 2, none⟩) hpw22).trans xpw22_2
          replace xpw22_3 := (hb.cell (p := ⟨pw22, 3, none⟩) hpw22).trans xpw22_3
          replace hpw22 := Nat.lt_of_lt_of_le hpw22 hb.size
          replace xpw26_0 := (hb.cell (p := ⟨pw26, 0, none⟩) hpw26).trans xpw26_0
          replace xpw26_1 := (hb.cell (p := ⟨pw26, 1, none⟩) hpw26).trans xpw26_1
          replace xpw26_2 := (hb.cell (p := ⟨pw26, 2, none⟩) hpw26).trans xpw26_2
          replace xpw26_3 := (hb.cell (p := ⟨pw26, 3, none⟩) hpw26).trans xpw26_3
          replace xpw26_4 := (hb.cell (p := ⟨pw26, 4, none⟩) hpw26).trans xpw26_4
          replace xpw26_5 := (hb.cell (p := ⟨pw26, 5, none⟩) hpw26).trans xpw26_5
          replace hpw26 := Nat.lt_of_lt_of_le hpw26 hb.size
          replace xp39_0 := (hb.cell (p := ⟨p39, 0, none⟩) hp39).trans xp39_0
          replace xp39_1 := (hb.cell (p := ⟨p39, 1, none⟩) hp39).trans xp39_1
          replace xp39_2 := (hb.cell (p := ⟨p39, 2, none⟩) hp39).trans xp39_2
          replace xp39_3 := (hb.cell (p := ⟨p39, 3, none⟩) hp39).trans xp39_3
          replace xp39_4 := (hb.cell (p := ⟨p39, 4, none⟩) hp39).trans xp39_4
          replace xp39_5 := (hb.cell (p := ⟨p39, 5, none⟩) hp39).trans xp39_5
          replace hp39 := Nat.lt_of_lt_of_le hp39 hb.size
          replace HB := Lib.hid (HB.out.trans (hb.mono hz))
          replace hz := Nat.le_trans hz hb.size
          have HZw44 := Lib.hid hb.size
          replace HOr10 := Lib.hid (HOr10.out.later hb)
          replace HOr11 := Lib.hid (HOr11.out.later hb)
          replace HOr15 := Lib.hid (HOr15.out.later hb)
          replace HOr16 := Lib.hid (HOr16.out.later hb)
          replace HOr20 := Lib.hid (HOr20.out.later hb)
          replace HOr21 := Lib.hid (HOr21.out.later hb)
          replace HOr24 := Lib.hid (HOr24.out.later hb)
          replace HOr25 := Lib.hid (HOr25.out.later hb)
          replace HOr40 := Lib.hid (HOr40.out.later hb)
          replace HOr41 := Lib.hid (HOr41.out.later hb)
          replace HA0 := Lib.hid (HA0.out.later hb)
          replace HM0 := Lib.hid (HM0.out.later hb)
          replace HA2 := Lib.hid (HA2.out.later hb)
          replace HM2 := Lib.hid (HM2.out.later hb)
          clear hb
          go_wp2_with fail
          go_ret
          exact ⟨rfl, HB.out⟩
set_option maxRecDepth 100000 in
theorem lifted (os : Os) (started : os.Started) (H : Type) (enc : TypeId × Value → H) :
    ReturnsInHanded {} Try.checked os 6 .any (Rows.fnExactAcceptSpec.pre6 enc Try.prog Try.f6 Rows.fnExactAcceptRow.domain false) (Rows.fnExactAcceptSpec.post enc Try.prog Try.f6 false true false false) := by
  refine returnsInHanded_of_change (C := Try.checked) kit.own started (by kernel_rfl) Try.func6
    (ChangeSpec.witness6 (enc := enc) (C := Try.checked) false ⟨#[], #[.agg #[.int .i64 0, .int .i64 0, .int .i64 0, .int .i64 0, .slice none 0 0, .slice none 0 0], .int .i64 0, .agg #[.int .i64 0, .int .i64 0, .slice none 0 0, .slice none 0 0]], []⟩ 8 (by kernel_rfl) (by kernel_rfl) (by kernel_rfl) (by kernel_rfl)) ?_
  intro W base args ds gs before hval0 hW hcnd _
  have hval : ∀ (j : Nat) t v, Try.f6.params[j]? = some t → args[j]? = some v → Value.okWide Try.prog W .any base t v := hval0
  have hW' := hW
  obtain ⟨p, q, hA0, hV, rfl, hfz, hnd⟩ := hW
  have hA : DataW.TrodAll enc Try.prog W 0 (fun _ => true) true Try.f6.params.toList args.toList ds p := hA0
  rw [Try.params6] at hA hval
  obtain ⟨v0, vs0, d0, ds0, p0, q0, hargs, rfl, rfl, h0, r0⟩ := trodAll_cons hA
  obtain ⟨v1, vs1, d1, ds1, p1, q1, rfl, rfl, rfl, h1, r1⟩ := trodAll_cons r0
  obtain ⟨v2, vs2, d2, ds2, p2, q2, rfl, rfl, rfl, h2, r2⟩ := trodAll_cons r1
  obtain ⟨rfl, rfl, rfl⟩ := trodAll_nil r2
  obtain rfl : args = #[v0, v1, v2] := by cases args; simp_all
  obtain ⟨rfl, rfl⟩ := trodVars_none hV
  have k0 := h0
  have lt0 : ∀ x ∈ p0, x.block < W.heap.size := by obtain ⟨m, hm⟩ := k0; exact DataW.trod_lt m _ _ _ hm
  obtain ⟨x0, y0, s0, t0, a0, c0, L0, b0, e0, M0, rfl, wa0, wb0, wl0, wm0⟩ := kit.open_acceptor (hval 0 41 v0 rfl rfl) h0 lt0
  obtain ⟨a1, rfl, rfl, rfl, w1⟩ := open_int Try.underlying3 (hval 1 3 v1 rfl rfl) h1
  have k2 := h2
  have lt2 : ∀ x ∈ p2, x.block < W.heap.size := by obtain ⟨m, hm⟩ := k2; exact DataW.trod_lt m _ _ _ hm
  obtain ⟨x2, y2, a2, c2, L2, b2, e2, M2, rfl, wa2, wb2, wl2, wm2⟩ := kit.open_config (hval 2 39 v2 rfl rfl) h2 lt2
  clear hA0 hval0
  refine (walk x0 y0 s0 t0 a0 c0 L0 b0 e0 M0 a1 x2 y2 a2 c2 L2 b2 e2 M2 W wa0 wb0 wl0 wm0 w1 wa2 wb2 wl2 wm2).mono fun e W' ⟨he, bel⟩ => ?_
  subst he
  exact ⟨_, rfl, _, _, _, [], _, [], hW', trodAll_mk1 (shut_bool Try.underlying4 _), (trodAll_cons_mk (Below.trod kit.laidOut (by kernel_rfl) (of_decide_eq_true (by kernel_rfl)) k0 bel lt0) (trodAll_cons_mk (shut_int Try.underlying3 w1) (trodAll_cons_mk (Below.trod kit.laidOut (by kernel_rfl) (of_decide_eq_true (by kernel_rfl)) k2 bel lt2) trodAll_mk0))), rfl, bel.frame _, fun h => by cases h⟩

theorem proved : Rows.FnExactAcceptSaid :=
  OpenClaim.holds_of_wide 6 Try.f6 rfl rfl rfl rfl rfl rfl rfl ⟨rfl, rfl, rfl, rfl, rfl⟩ rfl rfl rfl rfl rfl (by kernel_rfl) Try.func6 (by kernel_rfl)
    (of_decide_eq_true (by kernel_rfl)) (by unfold Func.isWrapper; first | (rw [if_pos (by decide +kernel)]; kernel_rfl) | (rw [if_neg (by decide +kernel)]; exact ⟨rfl, rfl⟩))
    (fun os started H enc _ => lifted os started H enc)
end Go.Proofs.Ytgjebjoaemeeoaa.fnExactAccept
