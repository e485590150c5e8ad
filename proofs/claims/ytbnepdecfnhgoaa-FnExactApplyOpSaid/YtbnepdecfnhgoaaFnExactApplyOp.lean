/-
  For every machine and operation (the law passes over machines with more than 2^20 objects and sessions), impl's ApplyOp returns the same machine, result and bool as the specification's, in memory of its own, and leaves its arguments as they were: the law returns true and changes nothing that was there. No condition.
-/
import Derived.Test.YtbnepdecfnhgoaaS4SpecD
import Derived.Test.YtbnepdecfnhgoaaS4Equal
import Derived.Test.YtbnepdecfnhgoaaInvK
import Derived.Test.YtbnepdecfnhgoaaAppLen
import Derived.Deep.RegionWith
namespace Go.Proofs.Ytbnepdecfnhgoaa.fnExactApplyOp
open Go.ChangeShapes Go.WideShapes Go.ChangeAt Go.RowKit
set_option linter.unusedVariables false
set_option linter.unusedSimpArgs false

set_option maxRecDepth 100000 in
set_option maxHeartbeats 16000000 in
theorem walk (a0 : Option Addr) (c0 : Nat) (L0 : List Int) (b0 : Option Addr) (d0 : Nat) (M0 : List kit.Sess) (a1_0 : Int) (a1_1 : Int) (a1_2 : Int) (a1_3 : Int) (a1_4 : Int) (a1_5 : Int) (w : World) (wa0 : kit.At w a0 L0) (wb0 : kit.AtS w b0 M0) (wl0 : L0.length ≤ maxLen) (wm0 : M0.length ≤ maxLen) (w1 : (Lit.int .i64 a1_0).wf = true ∧ (Lit.int .i64 a1_1).wf = true ∧ (Lit.int .i64 a1_2).wf = true ∧ (Lit.int .i64 a1_3).wf = true ∧ (Lit.int .i64 a1_4).wf = true ∧ (Lit.int .i64 a1_5).wf = true) :
    Calls Try.prog 5 #[.agg #[.slice a0 L0.length c0, .slice b0 M0.length d0], .agg #[.int .i64 a1_0, .int .i64 a1_1, .int .i64 a1_2, .int .i64 a1_3, .int .i64 a1_4, .int .i64 a1_5]] w fun e w' => e = .returned (.bool true) ∧ Below w.heap.size w w' := by
  unfold maxLen at wl0 wm0
  have HA0' := Lib.hid (kit.at_low wa0)
  have HM0' := Lib.hid (kit.atS_low wb0)
  have HA0 := Lib.hid wa0
  have HM0 := Lib.hid wb0
  clear wa0 wb0
  have HB := Lib.hid (Below.refl w.heap.size w)
  have hz : w.heap.size ≤ w.heap.size := Nat.le_refl _
  go_enter Try.func5, Try.ntmps5
  go_wp2_with fail
  obtain ⟨w1, hw1⟩ : ∃ W, W = w.alloc (.cells #[.slice a0 L0.length c0, .slice b0 M0.length d0] 64) := ⟨_, rfl⟩
  rw [← hw1]
  obtain ⟨pw1, epw1⟩ : ∃ p, p = w.heap.size := ⟨_, rfl⟩
  rw [← epw1]
  have Epw1 := Lib.hid epw1
  have epw1' := Epw1.out
  clear epw1
  have xpw1_0 : w1.cell? ⟨pw1, 0, none⟩ = some (.slice a0 L0.length c0) := by rw [hw1, epw1', World.cell?_alloc_at _ _ _ _ rfl]; rfl
  have xpw1_1 : w1.cell? ⟨pw1, 1, none⟩ = some (.slice b0 M0.length d0) := by rw [hw1, epw1', World.cell?_alloc_at _ _ _ _ rfl]; rfl
  have hpw1 : pw1 < w1.heap.size := by rw [hw1, epw1', World.size_alloc]; exact Nat.lt_succ_self _
  have hb : Below w.heap.size w w1 := by rw [hw1]; exact (Below.refl _ _).alloc (Nat.le_refl _) _
  have Sw1 := Lib.hid (show w1.heap.size = w.heap.size + 1 by rw [hw1, World.size_alloc])
  replace HB := Lib.hid (HB.out.trans (hb.mono hz))
  replace hz := Nat.le_trans hz hb.size
  have HZw1 := Lib.hid hb.size
  replace HA0 := Lib.hid (HA0.out.later hb)
  replace HM0 := Lib.hid (HM0.out.later hb)
  clear hb
  obtain ⟨w2, hw2⟩ : ∃ W, W = w1.alloc (.cells #[.int .i64 a1_0, .int .i64 a1_1, .int .i64 a1_2, .int .i64 a1_3, .int .i64 a1_4, .int .i64 a1_5] 65) := ⟨_, rfl⟩
  rw [← hw2]
  obtain ⟨pw2, epw2⟩ : ∃ p, p = pw1 + 1 := ⟨_, rfl⟩
  rw [← epw2]
  have Epw2 := Lib.hid (show pw2 = w1.heap.size by rw [epw2, hw1, World.size_alloc, epw1'])
  have epw2' := Epw2.out
  clear epw2
  have xpw2_0 : w2.cell? ⟨pw2, 0, none⟩ = some (.int .i64 a1_0) := by rw [hw2, epw2', World.cell?_alloc_at _ _ _ _ rfl]; rfl
  have xpw2_1 : w2.cell? ⟨pw2, 1, none⟩ = some (.int .i64 a1_1) := by rw [hw2, epw2', World.cell?_alloc_at _ _ _ _ rfl]; rfl
  have xpw2_2 : w2.cell? ⟨pw2, 2, none⟩ = some (.int .i64 a1_2) := by rw [hw2, epw2', World.cell?_alloc_at _ _ _ _ rfl]; rfl
  have xpw2_3 : w2.cell? ⟨pw2, 3, none⟩ = some (.int .i64 a1_3) := by rw [hw2, epw2', World.cell?_alloc_at _ _ _ _ rfl]; rfl
  have xpw2_4 : w2.cell? ⟨pw2, 4, none⟩ = some (.int .i64 a1_4) := by rw [hw2, epw2', World.cell?_alloc_at _ _ _ _ rfl]; rfl
  have xpw2_5 : w2.cell? ⟨pw2, 5, none⟩ = some (.int .i64 a1_5) := by rw [hw2, epw2', World.cell?_alloc_at _ _ _ _ rfl]; rfl
  have hpw2 : pw2 < w2.heap.size := by rw [hw2, epw2', World.size_alloc]; exact Nat.lt_succ_self _
  have hb : Below w1.heap.size w1 w2 := by rw [hw2]; exact (Below.refl _ _).alloc (Nat.le_refl _) _
  have Sw2 := Lib.hid (show w2.heap.size = w1.heap.size + 1 by rw [hw2, World.size_alloc])
  replace xpw1_0 := (hb.cell (p := ⟨pw1, 0, none⟩) hpw1).trans xpw1_0
  replace xpw1_1 := (hb.cell (p := ⟨pw1, 1, none⟩) hpw1).trans xpw1_1
  replace hpw1 := Nat.lt_of_lt_of_le hpw1 hb.size
  replace HB := Lib.hid (HB.out.trans (hb.mono hz))
  replace hz := Nat.le_trans hz hb.size
  have HZw2 := Lib.hid hb.size
  replace HA0 := Lib.hid (HA0.out.later hb)
  replace HM0 := Lib.hid (HM0.out.later hb)
  clear hb
  clear epw1' hw1
  clear epw2' hw2
  refine (kit.szMachine a0 L0.length c0 b0 M0.length d0 (1048576) w2 (by omega) (by omega) (by omega) (by omega)).mono ?_
  rintro e w3 ⟨rfl, hb⟩
  replace xpw1_0 := (hb.cell (p := ⟨pw1, 0, none⟩) hpw1).trans xpw1_0
  replace xpw1_1 := (hb.cell (p := ⟨pw1, 1, none⟩) hpw1).trans xpw1_1
  replace hpw1 := Nat.lt_of_lt_of_le hpw1 hb.size
  replace xpw2_0 := (hb.cell (p := ⟨pw2, 0, none⟩) hpw2).trans xpw2_0
  replace xpw2_1 := (hb.cell (p := ⟨pw2, 1, none⟩) hpw2).trans xpw2_1
  replace xpw2_2 := (hb.cell (p := ⟨pw2, 2, none⟩) hpw2).trans xpw2_2
  replace xpw2_3 := (hb.cell (p := ⟨pw2, 3, none⟩) hpw2).trans xpw2_3
  replace xpw2_4 := (hb.cell (p := ⟨pw2, 4, none⟩) hpw2).trans xpw2_4
  replace xpw2_5 := (hb.cell (p := ⟨pw2, 5, none⟩) hpw2).trans xpw2_5
  replace hpw2 := Nat.lt_of_lt_of_le hpw2 hb.size
  replace HB := Lib.hid (HB.out.trans (hb.mono hz))
  replace hz := Nat.le_trans hz hb.size
  have HZw3 := Lib.hid hb.size
  replace HA0 := Lib.hid (HA0.out.later hb)
  replace HM0 := Lib.hid (HM0.out.later hb)
  clear hb
  by_cases hs1 : ¬ (L0.length : Int) + (M0.length : Int) ≤ 1048576
  · rw [show kit.left (1048576) L0.length M0.length = -1 from if_neg hs1]
    go_wp2_with fail
    go_ret
    exact ⟨rfl, HB.out⟩
  replace hs1 := Decidable.not_not.1 hs1
  rw [show kit.left (1048576) L0.length M0.length = 1048576 - (L0.length : Int) - (M0.length : Int) from if_pos hs1]
  go_wp2_with fail
  obtain ⟨T1, hT1⟩ : ∃ T, kit.appO L0 M0 a1_0 a1_1 a1_2 a1_3 a1_4 a1_5 = T := ⟨_, rfl⟩
  have lT1 : T1.length ≤ 4194304 := by rw [← hT1]; exact kit.appO_len _ _ _ _ _ _ _ _ (by omega)
  have HT1 := Lib.hid hT1
  clear hT1
  obtain ⟨T2, hT2⟩ : ∃ T, kit.appS L0 M0 a1_0 a1_1 a1_2 a1_3 a1_4 a1_5 = T := ⟨_, rfl⟩
  have lT2 : T2.length ≤ 4194304 := by rw [← hT2]; exact kit.appS_len _ _ _ _ _ _ _ _ (by omega)
  have HT2 := Lib.hid hT2
  clear hT2
  obtain ⟨T3, hT3⟩ : ∃ T, kit.appD L0 M0 a1_0 a1_1 a1_2 a1_3 a1_4 a1_5 = T := ⟨_, rfl⟩
  have HT3 := Lib.hid hT3
  clear hT3
  obtain ⟨T4, hT4⟩ : ∃ T, kit.appV L0 M0 a1_0 a1_1 a1_2 a1_3 a1_4 a1_5 = T := ⟨_, rfl⟩
  have HT4 := Lib.hid hT4
  clear hT4
  obtain ⟨T5, hT5⟩ : ∃ T, kit.appB L0 M0 a1_0 a1_1 a1_2 a1_3 a1_4 a1_5 = T := ⟨_, rfl⟩
  have HT5 := Lib.hid hT5
  clear hT5
  go_upto_region 5 with (fail)
  go_cut [6, 7, 8] (fun b0 b1 b2 wx => ∃ (p0 : Nat) (p1 : Nat) (xI xS : Value), b0 = .pointer (some ⟨p0, 0, none⟩) ∧ b1 = .pointer (some ⟨p1, 0, none⟩) ∧ b2 = .bool T5 ∧ kit.Box2 wx p0 27 (xI) (xS) ∧ kit.Box2 wx p1 33 (.bool T3) (.int .i64 T4) ∧ kit.OwnI (w3.heap.size) wx xI T1 ∧ kit.OwnS (w3.heap.size) wx xS T2 ∧ w3.heap.size ≤ p0 ∧ w3.heap.size ≤ p1 ∧ Below (w3.heap.size) w3 wx)
  case first =>
    refine kit.region_inv (m := 11) [25, 26, 27, 28, 29, 24, 30, 31, 32, 6, 7] [7, 8] (kit.Fs [kit.isV (.agg #[.slice a0 L0.length c0, .slice b0 M0.length d0]), kit.isM (w3.heap.size) L0 M0 id, kit.isV (.agg #[.int .i64 a1_0, .int .i64 a1_1, .int .i64 a1_2, .int .i64 a1_3, .int .i64 a1_4, .int .i64 a1_5]), kit.isV (.agg #[.int .i64 a1_0, .int .i64 a1_1, .int .i64 a1_2, .int .i64 a1_3, .int .i64 a1_4, .int .i64 a1_5]), kit.isM (w3.heap.size) T1 T2 (fun m => .tuple #[m, .agg #[.bool T3, .int .i64 T4], .bool T5]), kit.isM (w3.heap.size) T1 T2 (fun m => .tuple #[m, .agg #[.bool T3, .int .i64 T4], .bool T5]), kit.isM (w3.heap.size) T1 T2 id, kit.isV (.agg #[.bool T3, .int .i64 T4]), kit.isV (.bool T5), kit.isB (w3.heap.size) 27 (.slice none 0 0) (.slice none 0 0), kit.isB (w3.heap.size) 33 (.bool false) (.int .i64 0)]) (by kernel_rfl) (by decide) rfl (by decide) (by kernel_rfl) (by kernel_rfl) (by kernel_rfl) (fun _ _ _ _ _ h => h) (kit.Fs_mono ⟨kit.isV_mono _, kit.isM_mono _ _ _ _, kit.isV_mono _, kit.isV_mono _, kit.isM_mono _ _ _ _, kit.isM_mono _ _ _ _, kit.isM_mono _ _ _ _, kit.isV_mono _, kit.isV_mono _, kit.isB_mono _ _ _ _, kit.isB_mono _ _ _ _, trivial⟩) ?step ?float ?tail
    case float =>
      intro f hf vs wq hd
      simp only [List.mem_cons, List.not_mem_nil, or_false] at hf
      rcases hf with rfl | rfl
      · obtain ⟨x1, x2, e5, h1, h2⟩ : (kit.isM (w3.heap.size) T1 T2 (fun m => .tuple #[m, .agg #[.bool T3, .int .i64 T4], .bool T5])) (vs 5) wq := hd 5 (List.contains_iff_mem.1 (by kernel_rfl))
        refine ⟨_, .agg #[.bool T3, .int .i64 T4], rfl, rfl, .inl ⟨by rfl, fun w9 => ?_⟩, rfl⟩
        simp only [kit.lay, Act.put, List.setIfInBounds_toArray, List.set_cons_zero, List.set_cons_succ, List.getD_cons_zero, List.getD_cons_succ, id_eq]
        rw [e5]
        go_simp
      · obtain ⟨x1, x2, e5, h1, h2⟩ : (kit.isM (w3.heap.size) T1 T2 (fun m => .tuple #[m, .agg #[.bool T3, .int .i64 T4], .bool T5])) (vs 5) wq := hd 5 (List.contains_iff_mem.1 (by kernel_rfl))
        refine ⟨_, .bool T5, rfl, rfl, .inl ⟨by rfl, fun w9 => ?_⟩, rfl⟩
        simp only [kit.lay, Act.put, List.setIfInBounds_toArray, List.set_cons_zero, List.set_cons_succ, List.getD_cons_zero, List.getD_cons_succ, id_eq]
        rw [e5]
        go_simp
    case step =>
      intro i hi vs wq hBq hd
      rcases (show i = 0 ∨ i = 1 ∨ i = 2 ∨ i = 3 ∨ i = 4 ∨ i = 5 ∨ i = 6 ∨ i = 7 ∨ i = 8 ∨ i = 9 ∨ i = 10 from by omega) with rfl | rfl | rfl | rfl | rfl | rfl | rfl | rfl | rfl | rfl | rfl
      · have zpw1_0 := (hBq.cell (p := ⟨pw1, 0, none⟩) hpw1).trans xpw1_0
        have zpw1_1 := (hBq.cell (p := ⟨pw1, 1, none⟩) hpw1).trans xpw1_1
        refine wpOp_step (o := _) rfl (fun K' hK => ?_)
        have HK := Lib.hid hK
        clear hK
        simp only [kit.lay, Act.put, List.setIfInBounds_toArray, List.set_cons_zero, List.set_cons_succ, List.getD_cons_zero, List.getD_cons_succ, id_eq]
        go_simp
        refine HK.out _ _ ⟨_, ?_, Below.refl _ _, rfl⟩
        simp only [kit.lay, Act.put, List.setIfInBounds_toArray, List.set_cons_zero, List.set_cons_succ, List.getD_cons_zero, List.getD_cons_succ, id_eq]
      · have e0 : vs 0 = .agg #[.slice a0 L0.length c0, .slice b0 M0.length d0] := hd 0 (List.contains_iff_mem.1 (by kernel_rfl))
        refine wpOp_step (o := _) rfl (fun K' hK => ?_)
        have HK := Lib.hid hK
        clear hK
        simp only [kit.lay, Act.put, List.setIfInBounds_toArray, List.set_cons_zero, List.set_cons_succ, List.getD_cons_zero, List.getD_cons_succ, id_eq]
        rw [e0]
        go_simp
        go_at_call 33
        refine (kit.toMachine a0 c0 L0 b0 d0 M0 wq (by omega) (by omega) (HA0.out.later hBq) (HM0.out.later hBq)).mono ?_
        rintro e w2 ⟨x1, x2, rfl, h1, h2, hb⟩
        refine HK.out _ _ ⟨_, ?_, hb, x1, x2, rfl, h1.mono hBq.size, h2.mono hBq.size⟩
        simp only [kit.lay, Act.put, List.setIfInBounds_toArray, List.set_cons_zero, List.set_cons_succ, List.getD_cons_zero, List.getD_cons_succ, id_eq]
        rw [e0]
      · have zpw2_0 := (hBq.cell (p := ⟨pw2, 0, none⟩) hpw2).trans xpw2_0
        have zpw2_1 := (hBq.cell (p := ⟨pw2, 1, none⟩) hpw2).trans xpw2_1
        have zpw2_2 := (hBq.cell (p := ⟨pw2, 2, none⟩) hpw2).trans xpw2_2
        have zpw2_3 := (hBq.cell (p := ⟨pw2, 3, none⟩) hpw2).trans xpw2_3
        have zpw2_4 := (hBq.cell (p := ⟨pw2, 4, none⟩) hpw2).trans xpw2_4
        have zpw2_5 := (hBq.cell (p := ⟨pw2, 5, none⟩) hpw2).trans xpw2_5
        refine wpOp_step (o := _) rfl (fun K' hK => ?_)
        have HK := Lib.hid hK
        clear hK
        simp only [kit.lay, Act.put, List.setIfInBounds_toArray, List.set_cons_zero, List.set_cons_succ, List.getD_cons_zero, List.getD_cons_succ, id_eq]
        go_simp
        refine HK.out _ _ ⟨_, ?_, Below.refl _ _, rfl⟩
        simp only [kit.lay, Act.put, List.setIfInBounds_toArray, List.set_cons_zero, List.set_cons_succ, List.getD_cons_zero, List.getD_cons_succ, id_eq]
      · have e2 : vs 2 = .agg #[.int .i64 a1_0, .int .i64 a1_1, .int .i64 a1_2, .int .i64 a1_3, .int .i64 a1_4, .int .i64 a1_5] := hd 2 (List.contains_iff_mem.1 (by kernel_rfl))
        refine wpOp_step (o := _) rfl (fun K' hK => ?_)
        have HK := Lib.hid hK
        clear hK
        simp only [kit.lay, Act.put, List.setIfInBounds_toArray, List.set_cons_zero, List.set_cons_succ, List.getD_cons_zero, List.getD_cons_succ, id_eq]
        rw [e2]
        go_simp
        go_at_call 34
        refine (kit.toOp a1_0 a1_1 a1_2 a1_3 a1_4 a1_5 wq).mono ?_
        rintro e w2 ⟨rfl, hb⟩
        refine HK.out _ _ ⟨_, ?_, hb, rfl⟩
        simp only [kit.lay, Act.put, List.setIfInBounds_toArray, List.set_cons_zero, List.set_cons_succ, List.getD_cons_zero, List.getD_cons_succ, id_eq]
        rw [e2]
      · obtain ⟨xr4, xr5, e1, hor4, hor5⟩ : kit.isM (w3.heap.size) L0 M0 id (vs 1) wq := hd 1 (List.contains_iff_mem.1 (by kernel_rfl))
        simp only [id] at e1
        obtain ⟨yr4, qr4, rfl⟩ := hor4.shape
        obtain ⟨yr5, qr5, rfl⟩ := hor5.shape
        have HOr4 := Lib.hid hor4
        have HOr5 := Lib.hid hor5
        have e3 : vs 3 = .agg #[.int .i64 a1_0, .int .i64 a1_1, .int .i64 a1_2, .int .i64 a1_3, .int .i64 a1_4, .int .i64 a1_5] := hd 3 (List.contains_iff_mem.1 (by kernel_rfl))
        refine wpOp_step (o := _) rfl (fun K' hK => ?_)
        have HK := Lib.hid hK
        clear hK
        simp only [kit.lay, Act.put, List.setIfInBounds_toArray, List.set_cons_zero, List.set_cons_succ, List.getD_cons_zero, List.getD_cons_succ, id_eq]
        rw [e1, e3]
        go_simp
        go_at_call 12
        refine (kit.specApplyOp _ _ (.slice yr4 L0.length qr4) (.slice yr5 M0.length qr5) L0 M0 a1_0 a1_1 a1_2 a1_3 a1_4 a1_5 wq (by omega) (by omega) HOr4.out HOr5.out).mono ?_
        rintro e w2 ⟨x1, x2, he, h1, h2, hb⟩
        rw [HT1.out] at h1
        rw [HT2.out] at h2
        rw [HT3.out] at he
        rw [HT4.out] at he
        rw [HT5.out] at he
        subst he
        refine HK.out _ _ ⟨_, ?_, hb, x1, x2, rfl, h1.mono hBq.size, h2.mono hBq.size⟩
        simp only [kit.lay, Act.put, List.setIfInBounds_toArray, List.set_cons_zero, List.set_cons_succ, List.getD_cons_zero, List.getD_cons_succ, id_eq]
        rw [e1, e3]
      · have f4 : (kit.isM (w3.heap.size) T1 T2 (fun m => .tuple #[m, .agg #[.bool T3, .int .i64 T4], .bool T5])) (vs 4) wq := hd 4 (List.contains_iff_mem.1 (by kernel_rfl))
        refine wpOp_step (o := _) rfl (fun K' hK => ?_)
        have HK := Lib.hid hK
        clear hK
        simp only [kit.lay, Act.put, List.setIfInBounds_toArray, List.set_cons_zero, List.set_cons_succ, List.getD_cons_zero, List.getD_cons_succ, id_eq]
        go_simp
        refine HK.out _ _ ⟨_, ?_, Below.refl _ _, f4⟩
        simp only [kit.lay, Act.put, List.setIfInBounds_toArray, List.set_cons_zero, List.set_cons_succ, List.getD_cons_zero, List.getD_cons_succ, id_eq]
      · obtain ⟨x1, x2, e5, h1, h2⟩ : (kit.isM (w3.heap.size) T1 T2 (fun m => .tuple #[m, .agg #[.bool T3, .int .i64 T4], .bool T5])) (vs 5) wq := hd 5 (List.contains_iff_mem.1 (by kernel_rfl))
        refine wpOp_step (o := _) rfl (fun K' hK => ?_)
        have HK := Lib.hid hK
        clear hK
        simp only [kit.lay, Act.put, List.setIfInBounds_toArray, List.set_cons_zero, List.set_cons_succ, List.getD_cons_zero, List.getD_cons_succ, id_eq]
        rw [e5]
        go_simp
        refine HK.out _ _ ⟨_, ?_, Below.refl _ _, x1, x2, rfl, h1, h2⟩
        simp only [kit.lay, Act.put, List.setIfInBounds_toArray, List.set_cons_zero, List.set_cons_succ, List.getD_cons_zero, List.getD_cons_succ, id_eq]
        rw [e5]
      · obtain ⟨x1, x2, e5, h1, h2⟩ : (kit.isM (w3.heap.size) T1 T2 (fun m => .tuple #[m, .agg #[.bool T3, .int .i64 T4], .bool T5])) (vs 5) wq := hd 5 (List.contains_iff_mem.1 (by kernel_rfl))
        refine wpOp_step (o := _) rfl (fun K' hK => ?_)
        have HK := Lib.hid hK
        clear hK
        simp only [kit.lay, Act.put, List.setIfInBounds_toArray, List.set_cons_zero, List.set_cons_succ, List.getD_cons_zero, List.getD_cons_succ, id_eq]
        rw [e5]
        go_simp
        refine HK.out _ _ ⟨_, ?_, Below.refl _ _, rfl⟩
        simp only [kit.lay, Act.put, List.setIfInBounds_toArray, List.set_cons_zero, List.set_cons_succ, List.getD_cons_zero, List.getD_cons_succ, id_eq]
        rw [e5]
      · obtain ⟨x1, x2, e5, h1, h2⟩ : (kit.isM (w3.heap.size) T1 T2 (fun m => .tuple #[m, .agg #[.bool T3, .int .i64 T4], .bool T5])) (vs 5) wq := hd 5 (List.contains_iff_mem.1 (by kernel_rfl))
        refine wpOp_step (o := _) rfl (fun K' hK => ?_)
        have HK := Lib.hid hK
        clear hK
        simp only [kit.lay, Act.put, List.setIfInBounds_toArray, List.set_cons_zero, List.set_cons_succ, List.getD_cons_zero, List.getD_cons_succ, id_eq]
        rw [e5]
        go_simp
        refine HK.out _ _ ⟨_, ?_, Below.refl _ _, rfl⟩
        simp only [kit.lay, Act.put, List.setIfInBounds_toArray, List.set_cons_zero, List.set_cons_succ, List.getD_cons_zero, List.getD_cons_succ, id_eq]
        rw [e5]
      · refine wpOp_step (o := _) rfl (fun K' hK => ?_)
        have HK := Lib.hid hK
        clear hK
        simp only [kit.lay, Act.put, List.setIfInBounds_toArray, List.set_cons_zero, List.set_cons_succ, List.getD_cons_zero, List.getD_cons_succ, id_eq]
        go_simp
        refine HK.out _ _ ⟨_, ?_, (Below.refl _ _).alloc (Nat.le_refl _) _, _, rfl, kit.Box2.new _ _ _ _, hBq.size⟩
        simp only [kit.lay, Act.put, List.setIfInBounds_toArray, List.set_cons_zero, List.set_cons_succ, List.getD_cons_zero, List.getD_cons_succ, id_eq]
      · refine wpOp_step (o := _) rfl (fun K' hK => ?_)
        have HK := Lib.hid hK
        clear hK
        simp only [kit.lay, Act.put, List.setIfInBounds_toArray, List.set_cons_zero, List.set_cons_succ, List.getD_cons_zero, List.getD_cons_succ, id_eq]
        go_simp
        refine HK.out _ _ ⟨_, ?_, (Below.refl _ _).alloc (Nat.le_refl _) _, _, rfl, kit.Box2.new _ _ _ _, hBq.size⟩
        simp only [kit.lay, Act.put, List.setIfInBounds_toArray, List.set_cons_zero, List.set_cons_succ, List.getD_cons_zero, List.getD_cons_succ, id_eq]
    case tail =>
      intro vs wq hBq hf
      obtain ⟨xI, xS, e6, hI, hS⟩ : kit.isM (w3.heap.size) T1 T2 id (vs 6) wq := hf 6 (by decide)
      simp only [id] at e6
      obtain ⟨yI, qI, rfl⟩ := hI.shape
      obtain ⟨yS, qS, rfl⟩ := hS.shape
      have e7 : vs 7 = .agg #[.bool T3, .int .i64 T4] := hf 7 (by decide)
      have e8 : vs 8 = .bool T5 := hf 8 (by decide)
      obtain ⟨p0, e9, b0, n0⟩ : kit.isB (w3.heap.size) 27 (.slice none 0 0) (.slice none 0 0) (vs 9) wq := hf 9 (by decide)
      obtain ⟨p1, e10, b1, n1⟩ : kit.isB (w3.heap.size) 33 (.bool false) (.int .i64 0) (vs 10) wq := hf 10 (by decide)
      simp only [kit.lay, Act.put, List.setIfInBounds_toArray, List.set_cons_zero, List.set_cons_succ, List.getD_cons_zero, List.getD_cons_succ, id_eq]
      rw [e6, e7, e8, e9, e10]
      clear e6 e7 e8 e9 e10
      refine kit.any_all (rs := [11]) (by kernel_rfl) (by simp) ?_
      intro i hi
      simp only [List.mem_cons, List.not_mem_nil, or_false] at hi
      subst hi
      refine wpOp_step (o := _) rfl (fun K' hK => ?_)
      have HK := Lib.hid hK
      clear hK
      have kc0 := b0.c0
      have kc1 := b0.c1
      have kf0 := b0.f 0
      have kf1 := b0.f 1
      go_simp
      refine HK.out _ _ ?_
      clear HK K' kc0 kc1 kf0 kf1
      try simp only [Act.put, List.setIfInBounds_toArray, List.set_cons_zero, List.set_cons_succ]
      obtain ⟨wt11, hW⟩ : ∃ W, W = (wq.setCell ⟨p0, 0, none⟩ (.slice yI T1.length qI)).setCell ⟨p0, 1, none⟩ (.slice yS T2.length qS) := ⟨_, rfl⟩
      rw [← hW]
      replace b1 := (hW ▸ (b1.keep (b1.other b0 (by decide)) _ _) : kit.Box2 wt11 _ _ _ _)
      replace hI : kit.OwnI (w3.heap.size) wt11 _ T1 := hW ▸ kit.row_set2 hI b0 (by decide) _ _
      replace hS : kit.OwnS (w3.heap.size) wt11 _ T2 := hW ▸ kit.row_set2 hS b0 (by decide) _ _
      have hB11 : Below (w3.heap.size) w3 wt11 := hW ▸ kit.below_set2 hBq n0 _ _
      replace b0 := (hW ▸ (b0.set _ _) : kit.Box2 wt11 _ _ _ _)
      clear hW
      refine kit.any_all (rs := [12]) (by kernel_rfl) (by simp) ?_
      intro i hi
      simp only [List.mem_cons, List.not_mem_nil, or_false] at hi
      subst hi
      refine wpOp_step (o := _) rfl (fun K' hK => ?_)
      have HK := Lib.hid hK
      clear hK
      have kc0 := b1.c0
      have kc1 := b1.c1
      have kf0 := b1.f 0
      have kf1 := b1.f 1
      go_simp
      refine HK.out _ _ ?_
      clear HK K' kc0 kc1 kf0 kf1
      try simp only [Act.put, List.setIfInBounds_toArray, List.set_cons_zero, List.set_cons_succ]
      obtain ⟨wt12, hW⟩ : ∃ W, W = (wt11.setCell ⟨p1, 0, none⟩ (.bool T3)).setCell ⟨p1, 1, none⟩ (.int .i64 T4) := ⟨_, rfl⟩
      rw [← hW]
      replace b0 := (hW ▸ (b0.keep (b0.other b1 (by decide)) _ _) : kit.Box2 wt12 _ _ _ _)
      replace hI : kit.OwnI (w3.heap.size) wt12 _ T1 := hW ▸ kit.row_set2 hI b1 (by decide) _ _
      replace hS : kit.OwnS (w3.heap.size) wt12 _ T2 := hW ▸ kit.row_set2 hS b1 (by decide) _ _
      have hB12 : Below (w3.heap.size) w3 wt12 := hW ▸ kit.below_set2 hB11 n1 _ _
      replace b1 := (hW ▸ (b1.set _ _) : kit.Box2 wt12 _ _ _ _)
      clear hW
      refine kit.any_all (rs := [13]) (by kernel_rfl) (by simp) ?_
      intro i hi
      simp only [List.mem_cons, List.not_mem_nil, or_false] at hi
      subst hi
      refine wpOp_step (o := _) rfl (fun K' hK => ?_)
      have HK := Lib.hid hK
      clear hK
      go_simp
      refine HK.out _ _ ?_
      clear HK K'
      try simp only [Act.put, List.setIfInBounds_toArray, List.set_cons_zero, List.set_cons_succ]
      refine kit.any_done (by kernel_rfl) ?_ _
      go_wp2_with fail
      go_meet
      exact ⟨p0, p1, _, _, rfl, rfl, rfl, b0, b1, hI, hS, n0, n1, hB12⟩
  case rest =>
    obtain ⟨p0, p1, xI, xS, rfl, rfl, rfl, b0, b1, hoI, hoS, n0, n1, hb⟩ := hcut
    obtain ⟨p6, rfl⟩ : ∃ p, p = p0 := ⟨_, rfl⟩
    obtain ⟨p7, rfl⟩ : ∃ p, p = p1 := ⟨_, rfl⟩
    obtain ⟨yr8, qr8, rfl⟩ := hoI.shape
    obtain ⟨yr9, qr9, rfl⟩ := hoS.shape
    replace xpw1_0 := (hb.cell (p := ⟨pw1, 0, none⟩) hpw1).trans xpw1_0
    replace xpw1_1 := (hb.cell (p := ⟨pw1, 1, none⟩) hpw1).trans xpw1_1
    replace hpw1 := Nat.lt_of_lt_of_le hpw1 hb.size
    replace xpw2_0 := (hb.cell (p := ⟨pw2, 0, none⟩) hpw2).trans xpw2_0
    replace xpw2_1 := (hb.cell (p := ⟨pw2, 1, none⟩) hpw2).trans xpw2_1
    replace xpw2_2 := (hb.cell (p := ⟨pw2, 2, none⟩) hpw2).trans xpw2_2
    replace xpw2_3 := (hb.cell (p := ⟨pw2, 3, none⟩) hpw2).trans xpw2_3
    replace xpw2_4 := (hb.cell (p := ⟨pw2, 4, none⟩) hpw2).trans xpw2_4
    replace xpw2_5 := (hb.cell (p := ⟨pw2, 5, none⟩) hpw2).trans xpw2_5
    replace hpw2 := Nat.lt_of_lt_of_le hpw2 hb.size
    replace HB := Lib.hid (HB.out.trans (hb.mono hz))
    replace hz := Nat.le_trans hz hb.size
    have HZwc := Lib.hid hb.size
    replace HA0 := Lib.hid (HA0.out.later hb)
    replace HM0 := Lib.hid (HM0.out.later hb)
    have HOr8 := Lib.hid hoI
    have HUr8 := Lib.hid (fun g (hg : (.slice yr8 T1.length qr8 : Value).ownBlock = some g) => (⟨(hoI.block g hg).1, (hoI.block g hg).2, fun e => b0.not_row (by decide) hoI (by rw [hg, e]), fun e => b1.not_row (by decide) hoI (by rw [hg, e])⟩ : w3.heap.size ≤ g ∧ g < wc.heap.size ∧ g ≠ p6 ∧ g ≠ p7))
    have HOr9 := Lib.hid hoS
    have HUr9 := Lib.hid (fun g (hg : (.slice yr9 T2.length qr9 : Value).ownBlock = some g) => (⟨(hoS.block g hg).1, (hoS.block g hg).2, fun e => b0.not_row (by decide) hoS (by rw [hg, e]), fun e => b1.not_row (by decide) hoS (by rw [hg, e])⟩ : w3.heap.size ≤ g ∧ g < wc.heap.size ∧ g ≠ p6 ∧ g ≠ p7))
    have hp6 := b0.lt
    have xp6_0 := b0.c0
    have xp6_1 := b0.c1
    have Ep6 := Lib.hid n0
    have Sp6 := Lib.hid b0.lt
    have hp7 := b1.lt
    have xp7_0 := b1.c0
    have xp7_1 := b1.c1
    have Ep7 := Lib.hid n1
    have Sp7 := Lib.hid b1.lt
    have Dp6p7 := Lib.hid (b0.other b1 (by decide))
    clear b0 n0 b1 n1 hoI hoS hb
    obtain ⟨w10, rfl⟩ : ∃ W, W = wc := ⟨_, rfl⟩
    go_wp2_with fail
    refine (kit.toMachine a0 c0 L0 b0 d0 M0 w10 (by omega) (by omega) HA0.out HM0.out).mono ?_
    rintro e w11 ⟨u12I, u12S, rfl, hoI, hoS, hb⟩
    obtain ⟨yr13, qr13, rfl⟩ := hoI.shape
    obtain ⟨yr14, qr14, rfl⟩ := hoS.shape
    replace xpw1_0 := (hb.cell (p := ⟨pw1, 0, none⟩) hpw1).trans xpw1_0
    replace xpw1_1 := (hb.cell (p := ⟨pw1, 1, none⟩) hpw1).trans xpw1_1
    replace hpw1 := Nat.lt_of_lt_of_le hpw1 hb.size
    replace xpw2_0 := (hb.cell (p := ⟨pw2, 0, none⟩) hpw2).trans xpw2_0
    replace xpw2_1 := (hb.cell (p := ⟨pw2, 1, none⟩) hpw2).trans xpw2_1
    replace xpw2_2 := (hb.cell (p := ⟨pw2, 2, none⟩) hpw2).trans xpw2_2
    replace xpw2_3 := (hb.cell (p := ⟨pw2, 3, none⟩) hpw2).trans xpw2_3
    replace xpw2_4 := (hb.cell (p := ⟨pw2, 4, none⟩) hpw2).trans xpw2_4
    replace xpw2_5 := (hb.cell (p := ⟨pw2, 5, none⟩) hpw2).trans xpw2_5
    replace hpw2 := Nat.lt_of_lt_of_le hpw2 hb.size
    replace xp6_0 := (hb.cell (p := ⟨p6, 0, none⟩) hp6).trans xp6_0
    replace xp6_1 := (hb.cell (p := ⟨p6, 1, none⟩) hp6).trans xp6_1
    replace hp6 := Nat.lt_of_lt_of_le hp6 hb.size
    replace xp7_0 := (hb.cell (p := ⟨p7, 0, none⟩) hp7).trans xp7_0
    replace xp7_1 := (hb.cell (p := ⟨p7, 1, none⟩) hp7).trans xp7_1
    replace hp7 := Nat.lt_of_lt_of_le hp7 hb.size
    replace HB := Lib.hid (HB.out.trans (hb.mono hz))
    replace hz := Nat.le_trans hz hb.size
    have HZw11 := Lib.hid hb.size
    replace HOr8 := Lib.hid (HOr8.out.later hb)
    replace HOr9 := Lib.hid (HOr9.out.later hb)
    replace HA0 := Lib.hid (HA0.out.later hb)
    replace HM0 := Lib.hid (HM0.out.later hb)
    have HOr13 := Lib.hid hoI
    have HUr13 := Lib.hid hoI.block
    clear hoI
    have HOr14 := Lib.hid hoS
    have HUr14 := Lib.hid hoS.block
    clear hoS
    clear hb
    go_wp2_with fail
    obtain ⟨w15, hw15⟩ : ∃ W, W = w11.alloc (.cells #[.slice yr13 L0.length qr13, .slice yr14 M0.length qr14] 27) := ⟨_, rfl⟩
    rw [← hw15]
    obtain ⟨pw15, epw15⟩ : ∃ p, p = w11.heap.size := ⟨_, rfl⟩
    rw [← epw15]
    have Epw15 := Lib.hid epw15
    have epw15' := Epw15.out
    clear epw15
    have xpw15_0 : w15.cell? ⟨pw15, 0, none⟩ = some (.slice yr13 L0.length qr13) := by rw [hw15, epw15', World.cell?_alloc_at _ _ _ _ rfl]; rfl
    have xpw15_1 : w15.cell? ⟨pw15, 1, none⟩ = some (.slice yr14 M0.length qr14) := by rw [hw15, epw15', World.cell?_alloc_at _ _ _ _ rfl]; rfl
    have hpw15 : pw15 < w15.heap.size := by rw [hw15, epw15', World.size_alloc]; exact Nat.lt_succ_self _
    have hb : Below w11.heap.size w11 w15 := by rw [hw15]; exact (Below.refl _ _).alloc (Nat.le_refl _) _
    have Sw15 := Lib.hid (show w15.heap.size = w11.heap.size + 1 by rw [hw15, World.size_alloc])
    replace xpw1_0 := (hb.cell (p := ⟨pw1, 0, none⟩) hpw1).trans xpw1_0
    replace xpw1_1 := (hb.cell (p := ⟨pw1, 1, none⟩) hpw1).trans xpw1_1
    replace hpw1 := Nat.lt_of_lt_of_le hpw1 hb.size
    replace xpw2_0 := (hb.cell (p := ⟨pw2, 0, none⟩) hpw2).trans xpw2_0
    replace xpw2_1 := (hb.cell (p := ⟨pw2, 1, none⟩) hpw2).trans xpw2_1
    replace xpw2_2 := (hb.cell (p := ⟨pw2, 2, none⟩) hpw2).trans xpw2_2
    replace xpw2_3 := (hb.cell (p := ⟨pw2, 3, none⟩) hpw2).trans xpw2_3
    replace xpw2_4 := (hb.cell (p := ⟨pw2, 4, none⟩) hpw2).trans xpw2_4
    replace xpw2_5 := (hb.cell (p := ⟨pw2, 5, none⟩) hpw2).trans xpw2_5
    replace hpw2 := Nat.lt_of_lt_of_le hpw2 hb.size
    replace xp6_0 := (hb.cell (p := ⟨p6, 0, none⟩) hp6).trans xp6_0
    replace xp6_1 := (hb.cell (p := ⟨p6, 1, none⟩) hp6).trans xp6_1
    replace hp6 := Nat.lt_of_lt_of_le hp6 hb.size
    replace xp7_0 := (hb.cell (p := ⟨p7, 0, none⟩) hp7).trans xp7_0
    replace xp7_1 := (hb.cell (p := ⟨p7, 1, none⟩) hp7).trans xp7_1
    replace hp7 := Nat.lt_of_lt_of_le hp7 hb.size
    replace HB := Lib.hid (HB.out.trans (hb.mono hz))
    replace hz := Nat.le_trans hz hb.size
    have HZw15 := Lib.hid hb.size
    replace HOr8 := Lib.hid (HOr8.out.later hb)
    replace HOr9 := Lib.hid (HOr9.out.later hb)
    replace HOr13 := Lib.hid (HOr13.out.later hb)
    replace HOr14 := Lib.hid (HOr14.out.later hb)
    replace HA0 := Lib.hid (HA0.out.later hb)
    replace HM0 := Lib.hid (HM0.out.later hb)
    clear hb
    clear epw15' hw15
    go_upto_region 7 with (fail)
    go_cut [10, 11, 12] (fun b0 b1 b2 wx => ∃ (p0 : Nat) (p1 : Nat) (xI xS : Value), b0 = .pointer (some ⟨p0, 0, none⟩) ∧ b1 = .pointer (some ⟨p1, 0, none⟩) ∧ b2 = .bool T5 ∧ kit.Box2 wx p0 27 (xI) (xS) ∧ kit.Box2 wx p1 33 (.bool T3) (.int .i64 T4) ∧ kit.OwnI (w15.heap.size) wx xI T1 ∧ kit.OwnS (w15.heap.size) wx xS T2 ∧ w15.heap.size ≤ p0 ∧ w15.heap.size ≤ p1 ∧ Below (w15.heap.size) w15 wx)
    case first =>
      refine kit.region_inv (m := 10) [36, 37, 38, 39, 35, 40, 41, 42, 10, 11] [6, 7] (kit.Fs [kit.isV (.agg #[.slice yr13 L0.length qr13, .slice yr14 M0.length qr14]), kit.isV (.agg #[.int .i64 a1_0, .int .i64 a1_1, .int .i64 a1_2, .int .i64 a1_3, .int .i64 a1_4, .int .i64 a1_5]), kit.isV (.agg #[.int .i64 a1_0, .int .i64 a1_1, .int .i64 a1_2, .int .i64 a1_3, .int .i64 a1_4, .int .i64 a1_5]), kit.isM (w15.heap.size) T1 T2 (fun m => .tuple #[m, .agg #[.bool T3, .int .i64 T4], .bool T5]), kit.isM (w15.heap.size) T1 T2 (fun m => .tuple #[m, .agg #[.bool T3, .int .i64 T4], .bool T5]), kit.isM (w15.heap.size) T1 T2 id, kit.isV (.agg #[.bool T3, .int .i64 T4]), kit.isV (.bool T5), kit.isB (w15.heap.size) 27 (.slice none 0 0) (.slice none 0 0), kit.isB (w15.heap.size) 33 (.bool false) (.int .i64 0)]) (by kernel_rfl) (by decide) rfl (by decide) (by kernel_rfl) (by kernel_rfl) (by kernel_rfl) (fun _ _ _ _ _ h => h) (kit.Fs_mono ⟨kit.isV_mono _, kit.isV_mono _, kit.isV_mono _, kit.isM_mono _ _ _ _, kit.isM_mono _ _ _ _, kit.isM_mono _ _ _ _, kit.isV_mono _, kit.isV_mono _, kit.isB_mono _ _ _ _, kit.isB_mono _ _ _ _, trivial⟩) ?step ?float ?tail
      case float =>
        intro f hf vs wq hd
        simp only [List.mem_cons, List.not_mem_nil, or_false] at hf
        rcases hf with rfl | rfl
        · obtain ⟨x1, x2, e4, h1, h2⟩ : (kit.isM (w15.heap.size) T1 T2 (fun m => .tuple #[m, .agg #[.bool T3, .int .i64 T4], .bool T5])) (vs 4) wq := hd 4 (List.contains_iff_mem.1 (by kernel_rfl))
          refine ⟨_, .agg #[.bool T3, .int .i64 T4], rfl, rfl, .inl ⟨by rfl, fun w9 => ?_⟩, rfl⟩
          simp only [kit.lay, Act.put, List.setIfInBounds_toArray, List.set_cons_zero, List.set_cons_succ, List.getD_cons_zero, List.getD_cons_succ, id_eq]
          rw [e4]
          go_simp
        · obtain ⟨x1, x2, e4, h1, h2⟩ : (kit.isM (w15.heap.size) T1 T2 (fun m => .tuple #[m, .agg #[.bool T3, .int .i64 T4], .bool T5])) (vs 4) wq := hd 4 (List.contains_iff_mem.1 (by kernel_rfl))
          refine ⟨_, .bool T5, rfl, rfl, .inl ⟨by rfl, fun w9 => ?_⟩, rfl⟩
          simp only [kit.lay, Act.put, List.setIfInBounds_toArray, List.set_cons_zero, List.set_cons_succ, List.getD_cons_zero, List.getD_cons_succ, id_eq]
          rw [e4]
          go_simp
      case step =>
        intro i hi vs wq hBq hd
        rcases (show i = 0 ∨ i = 1 ∨ i = 2 ∨ i = 3 ∨ i = 4 ∨ i = 5 ∨ i = 6 ∨ i = 7 ∨ i = 8 ∨ i = 9 from by omega) with rfl | rfl | rfl | rfl | rfl | rfl | rfl | rfl | rfl | rfl
        · have zpw15_0 := (hBq.cell (p := ⟨pw15, 0, none⟩) hpw15).trans xpw15_0
          have zpw15_1 := (hBq.cell (p := ⟨pw15, 1, none⟩) hpw15).trans xpw15_1
          refine wpOp_step (o := _) rfl (fun K' hK => ?_)
          have HK := Lib.hid hK
          clear hK
          simp only [kit.lay, Act.put, List.setIfInBounds_toArray, List.set_cons_zero, List.set_cons_succ, List.getD_cons_zero, List.getD_cons_succ, id_eq]
          go_simp
          refine HK.out _ _ ⟨_, ?_, Below.refl _ _, rfl⟩
          simp only [kit.lay, Act.put, List.setIfInBounds_toArray, List.set_cons_zero, List.set_cons_succ, List.getD_cons_zero, List.getD_cons_succ, id_eq]
        · have zpw2_0 := (hBq.cell (p := ⟨pw2, 0, none⟩) hpw2).trans xpw2_0
          have zpw2_1 := (hBq.cell (p := ⟨pw2, 1, none⟩) hpw2).trans xpw2_1
          have zpw2_2 := (hBq.cell (p := ⟨pw2, 2, none⟩) hpw2).trans xpw2_2
          have zpw2_3 := (hBq.cell (p := ⟨pw2, 3, none⟩) hpw2).trans xpw2_3
          have zpw2_4 := (hBq.cell (p := ⟨pw2, 4, none⟩) hpw2).trans xpw2_4
          have zpw2_5 := (hBq.cell (p := ⟨pw2, 5, none⟩) hpw2).trans xpw2_5
          refine wpOp_step (o := _) rfl (fun K' hK => ?_)
          have HK := Lib.hid hK
          clear hK
          simp only [kit.lay, Act.put, List.setIfInBounds_toArray, List.set_cons_zero, List.set_cons_succ, List.getD_cons_zero, List.getD_cons_succ, id_eq]
          go_simp
          refine HK.out _ _ ⟨_, ?_, Below.refl _ _, rfl⟩
          simp only [kit.lay, Act.put, List.setIfInBounds_toArray, List.set_cons_zero, List.set_cons_succ, List.getD_cons_zero, List.getD_cons_succ, id_eq]
        · have e1 : vs 1 = .agg #[.int .i64 a1_0, .int .i64 a1_1, .int .i64 a1_2, .int .i64 a1_3, .int .i64 a1_4, .int .i64 a1_5] := hd 1 (List.contains_iff_mem.1 (by kernel_rfl))
          refine wpOp_step (o := _) rfl (fun K' hK => ?_)
          have HK := Lib.hid hK
          clear hK
          simp only [kit.lay, Act.put, List.setIfInBounds_toArray, List.set_cons_zero, List.set_cons_succ, List.getD_cons_zero, List.getD_cons_succ, id_eq]
          rw [e1]
          go_simp
          go_at_call 34
          refine (kit.toOp a1_0 a1_1 a1_2 a1_3 a1_4 a1_5 wq).mono ?_
          rintro e w2 ⟨rfl, hb⟩
          refine HK.out _ _ ⟨_, ?_, hb, rfl⟩
          simp only [kit.lay, Act.put, List.setIfInBounds_toArray, List.set_cons_zero, List.set_cons_succ, List.getD_cons_zero, List.getD_cons_succ, id_eq]
          rw [e1]
        · have e0 : vs 0 = .agg #[.slice yr13 L0.length qr13, .slice yr14 M0.length qr14] := hd 0 (List.contains_iff_mem.1 (by kernel_rfl))
          have e2 : vs 2 = .agg #[.int .i64 a1_0, .int .i64 a1_1, .int .i64 a1_2, .int .i64 a1_3, .int .i64 a1_4, .int .i64 a1_5] := hd 2 (List.contains_iff_mem.1 (by kernel_rfl))
          refine wpOp_step (o := _) rfl (fun K' hK => ?_)
          have HK := Lib.hid hK
          clear hK
          simp only [kit.lay, Act.put, List.setIfInBounds_toArray, List.set_cons_zero, List.set_cons_succ, List.getD_cons_zero, List.getD_cons_succ, id_eq]
          rw [e0, e2]
          go_simp
          go_at_call 11
          refine (kit.implApplyOp _ _ (.slice yr13 L0.length qr13) (.slice yr14 M0.length qr14) L0 M0 a1_0 a1_1 a1_2 a1_3 a1_4 a1_5 wq (by omega) (by omega) (HOr13.out.later hBq) (HOr14.out.later hBq)).mono ?_
          rintro e w2 ⟨x1, x2, he, h1, h2, hb⟩
          rw [HT1.out] at h1
          rw [HT2.out] at h2
          rw [HT3.out] at he
          rw [HT4.out] at he
          rw [HT5.out] at he
          subst he
          refine HK.out _ _ ⟨_, ?_, hb, x1, x2, rfl, h1.mono hBq.size, h2.mono hBq.size⟩
          simp only [kit.lay, Act.put, List.setIfInBounds_toArray, List.set_cons_zero, List.set_cons_succ, List.getD_cons_zero, List.getD_cons_succ, id_eq]
          rw [e0, e2]
        · have f3 : (kit.isM (w15.heap.size) T1 T2 (fun m => .tuple #[m, .agg #[.bool T3, .int .i64 T4], .bool T5])) (vs 3) wq := hd 3 (List.contains_iff_mem.1 (by kernel_rfl))
          refine wpOp_step (o := _) rfl (fun K' hK => ?_)
          have HK := Lib.hid hK
          clear hK
          simp only [kit.lay, Act.put, List.setIfInBounds_toArray, List.set_cons_zero, List.set_cons_succ, List.getD_cons_zero, List.getD_cons_succ, id_eq]
          go_simp
          refine HK.out _ _ ⟨_, ?_, Below.refl _ _, f3⟩
          simp only [kit.lay, Act.put, List.setIfInBounds_toArray, List.set_cons_zero, List.set_cons_succ, List.getD_cons_zero, List.getD_cons_succ, id_eq]
        · obtain ⟨x1, x2, e4, h1, h2⟩ : (kit.isM (w15.heap.size) T1 T2 (fun m => .tuple #[m, .agg #[.bool T3, .int .i64 T4], .bool T5])) (vs 4) wq := hd 4 (List.contains_iff_mem.1 (by kernel_rfl))
          refine wpOp_step (o := _) rfl (fun K' hK => ?_)
          have HK := Lib.hid hK
          clear hK
          simp only [kit.lay, Act.put, List.setIfInBounds_toArray, List.set_cons_zero, List.set_cons_succ, List.getD_cons_zero, List.getD_cons_succ, id_eq]
          rw [e4]
          go_simp
          refine HK.out _ _ ⟨_, ?_, Below.refl _ _, x1, x2, rfl, h1, h2⟩
          simp only [kit.lay, Act.put, List.setIfInBounds_toArray, List.set_cons_zero, List.set_cons_succ, List.getD_cons_zero, List.getD_cons_succ, id_eq]
          rw [e4]
        · obtain ⟨x1, x2, e4, h1, h2⟩ : (kit.isM (w15.heap.size) T1 T2 (fun m => .tuple #[m, .agg #[.bool T3, .int .i64 T4], .bool T5])) (vs 4) wq := hd 4 (List.contains_iff_mem.1 (by kernel_rfl))
          refine wpOp_step (o := _) rfl (fun K' hK => ?_)
          have HK := Lib.hid hK
          clear hK
          simp only [kit.lay, Act.put, List.setIfInBounds_toArray, List.set_cons_zero, List.set_cons_succ, List.getD_cons_zero, List.getD_cons_succ, id_eq]
          rw [e4]
          go_simp
          refine HK.out _ _ ⟨_, ?_, Below.refl _ _, rfl⟩
          simp only [kit.lay, Act.put, List.setIfInBounds_toArray, List.set_cons_zero, List.set_cons_succ, List.getD_cons_zero, List.getD_cons_succ, id_eq]
          rw [e4]
        · obtain ⟨x1, x2, e4, h1, h2⟩ : (kit.isM (w15.heap.size) T1 T2 (fun m => .tuple #[m, .agg #[.bool T3, .int .i64 T4], .bool T5])) (vs 4) wq := hd 4 (List.contains_iff_mem.1 (by kernel_rfl))
          refine wpOp_step (o := _) rfl (fun K' hK => ?_)
          have HK := Lib.hid hK
          clear hK
          simp only [kit.lay, Act.put, List.setIfInBounds_toArray, List.set_cons_zero, List.set_cons_succ, List.getD_cons_zero, List.getD_cons_succ, id_eq]
          rw [e4]
          go_simp
          refine HK.out _ _ ⟨_, ?_, Below.refl _ _, rfl⟩
          simp only [kit.lay, Act.put, List.setIfInBounds_toArray, List.set_cons_zero, List.set_cons_succ, List.getD_cons_zero, List.getD_cons_succ, id_eq]
          rw [e4]
        · refine wpOp_step (o := _) rfl (fun K' hK => ?_)
          have HK := Lib.hid hK
          clear hK
          simp only [kit.lay, Act.put, List.setIfInBounds_toArray, List.set_cons_zero, List.set_cons_succ, List.getD_cons_zero, List.getD_cons_succ, id_eq]
          go_simp
          refine HK.out _ _ ⟨_, ?_, (Below.refl _ _).alloc (Nat.le_refl _) _, _, rfl, kit.Box2.new _ _ _ _, hBq.size⟩
          simp only [kit.lay, Act.put, List.setIfInBounds_toArray, List.set_cons_zero, List.set_cons_succ, List.getD_cons_zero, List.getD_cons_succ, id_eq]
        · refine wpOp_step (o := _) rfl (fun K' hK => ?_)
          have HK := Lib.hid hK
          clear hK
          simp only [kit.lay, Act.put, List.setIfInBounds_toArray, List.set_cons_zero, List.set_cons_succ, List.getD_cons_zero, List.getD_cons_succ, id_eq]
          go_simp
          refine HK.out _ _ ⟨_, ?_, (Below.refl _ _).alloc (Nat.le_refl _) _, _, rfl, kit.Box2.new _ _ _ _, hBq.size⟩
          simp only [kit.lay, Act.put, List.setIfInBounds_toArray, List.set_cons_zero, List.set_cons_succ, List.getD_cons_zero, List.getD_cons_succ, id_eq]
      case tail =>
        intro vs wq hBq hf
        obtain ⟨xI, xS, e5, hI, hS⟩ : kit.isM (w15.heap.size) T1 T2 id (vs 5) wq := hf 5 (by decide)
        simp only [id] at e5
        obtain ⟨yI, qI, rfl⟩ := hI.shape
        obtain ⟨yS, qS, rfl⟩ := hS.shape
        have e6 : vs 6 = .agg #[.bool T3, .int .i64 T4] := hf 6 (by decide)
        have e7 : vs 7 = .bool T5 := hf 7 (by decide)
        obtain ⟨p0, e8, b0, n0⟩ : kit.isB (w15.heap.size) 27 (.slice none 0 0) (.slice none 0 0) (vs 8) wq := hf 8 (by decide)
        obtain ⟨p1, e9, b1, n1⟩ : kit.isB (w15.heap.size) 33 (.bool false) (.int .i64 0) (vs 9) wq := hf 9 (by decide)
        simp only [kit.lay, Act.put, List.setIfInBounds_toArray, List.set_cons_zero, List.set_cons_succ, List.getD_cons_zero, List.getD_cons_succ, id_eq]
        rw [e5, e6, e7, e8, e9]
        clear e5 e6 e7 e8 e9
        refine kit.any_all (rs := [10]) (by kernel_rfl) (by simp) ?_
        intro i hi
        simp only [List.mem_cons, List.not_mem_nil, or_false] at hi
        subst hi
        refine wpOp_step (o := _) rfl (fun K' hK => ?_)
        have HK := Lib.hid hK
        clear hK
        have kc0 := b0.c0
        have kc1 := b0.c1
        have kf0 := b0.f 0
        have kf1 := b0.f 1
        go_simp
        refine HK.out _ _ ?_
        clear HK K' kc0 kc1 kf0 kf1
        try simp only [Act.put, List.setIfInBounds_toArray, List.set_cons_zero, List.set_cons_succ]
        obtain ⟨wt10, hW⟩ : ∃ W, W = (wq.setCell ⟨p0, 0, none⟩ (.slice yI T1.length qI)).setCell ⟨p0, 1, none⟩ (.slice yS T2.length qS) := ⟨_, rfl⟩
        rw [← hW]
        replace b1 := (hW ▸ (b1.keep (b1.other b0 (by decide)) _ _) : kit.Box2 wt10 _ _ _ _)
        replace hI : kit.OwnI (w15.heap.size) wt10 _ T1 := hW ▸ kit.row_set2 hI b0 (by decide) _ _
        replace hS : kit.OwnS (w15.heap.size) wt10 _ T2 := hW ▸ kit.row_set2 hS b0 (by decide) _ _
        have hB10 : Below (w15.heap.size) w15 wt10 := hW ▸ kit.below_set2 hBq n0 _ _
        replace b0 := (hW ▸ (b0.set _ _) : kit.Box2 wt10 _ _ _ _)
        clear hW
        refine kit.any_all (rs := [11]) (by kernel_rfl) (by simp) ?_
        intro i hi
        simp only [List.mem_cons, List.not_mem_nil, or_false] at hi
        subst hi
        refine wpOp_step (o := _) rfl (fun K' hK => ?_)
        have HK := Lib.hid hK
        clear hK
        have kc0 := b1.c0
        have kc1 := b1.c1
        have kf0 := b1.f 0
        have kf1 := b1.f 1
        go_simp
        refine HK.out _ _ ?_
        clear HK K' kc0 kc1 kf0 kf1
        try simp only [Act.put, List.setIfInBounds_toArray, List.set_cons_zero, List.set_cons_succ]
        obtain ⟨wt11, hW⟩ : ∃ W, W = (wt10.setCell ⟨p1, 0, none⟩ (.bool T3)).setCell ⟨p1, 1, none⟩ (.int .i64 T4) := ⟨_, rfl⟩
        rw [← hW]
        replace b0 := (hW ▸ (b0.keep (b0.other b1 (by decide)) _ _) : kit.Box2 wt11 _ _ _ _)
        replace hI : kit.OwnI (w15.heap.size) wt11 _ T1 := hW ▸ kit.row_set2 hI b1 (by decide) _ _
        replace hS : kit.OwnS (w15.heap.size) wt11 _ T2 := hW ▸ kit.row_set2 hS b1 (by decide) _ _
        have hB11 : Below (w15.heap.size) w15 wt11 := hW ▸ kit.below_set2 hB10 n1 _ _
        replace b1 := (hW ▸ (b1.set _ _) : kit.Box2 wt11 _ _ _ _)
        clear hW
        refine kit.any_all (rs := [12]) (by kernel_rfl) (by simp) ?_
        intro i hi
        simp only [List.mem_cons, List.not_mem_nil, or_false] at hi
        subst hi
        refine wpOp_step (o := _) rfl (fun K' hK => ?_)
        have HK := Lib.hid hK
        clear hK
        go_simp
        refine HK.out _ _ ?_
        clear HK K'
        try simp only [Act.put, List.setIfInBounds_toArray, List.set_cons_zero, List.set_cons_succ]
        refine kit.any_done (by kernel_rfl) ?_ _
        go_wp2_with fail
        go_meet
        exact ⟨p0, p1, _, _, rfl, rfl, rfl, b0, b1, hI, hS, n0, n1, hB11⟩
    case rest =>
      obtain ⟨p0, p1, xI, xS, rfl, rfl, rfl, b0, b1, hoI, hoS, n0, n1, hb⟩ := hcut
      obtain ⟨p16, rfl⟩ : ∃ p, p = p0 := ⟨_, rfl⟩
      obtain ⟨p17, rfl⟩ : ∃ p, p = p1 := ⟨_, rfl⟩
      obtain ⟨yr18, qr18, rfl⟩ := hoI.shape
      obtain ⟨yr19, qr19, rfl⟩ := hoS.shape
      replace xpw1_0 := (hb.cell (p := ⟨pw1, 0, none⟩) hpw1).trans xpw1_0
      replace xpw1_1 := (hb.cell (p := ⟨pw1, 1, none⟩) hpw1).trans xpw1_1
      replace hpw1 := Nat.lt_of_lt_of_le hpw1 hb.size
      replace xpw2_0 := (hb.cell (p := ⟨pw2, 0, none⟩) hpw2).trans xpw2_0
      replace xpw2_1 := (hb.cell (p := ⟨pw2, 1, none⟩) hpw2).trans xpw2_1
      replace xpw2_2 := (hb.cell (p := ⟨pw2, 2, none⟩) hpw2).trans xpw2_2
      replace xpw2_3 := (hb.cell (p := ⟨pw2, 3, none⟩) hpw2).trans xpw2_3
      replace xpw2_4 := (hb.cell (p := ⟨pw2, 4, none⟩) hpw2).trans xpw2_4
      replace xpw2_5 := (hb.cell (p := ⟨pw2, 5, none⟩) hpw2).trans xpw2_5
      replace hpw2 := Nat.lt_of_lt_of_le hpw2 hb.size
      replace xp6_0 := (hb.cell (p := ⟨p6, 0, none⟩) hp6).trans xp6_0
      replace xp6_1 := (hb.cell (p := ⟨p6, 1, none⟩) hp6).trans xp6_1
      replace hp6 := Nat.lt_of_lt_of_le hp6 hb.size
      replace xp7_0 := (hb.cell (p := ⟨p7, 0, none⟩) hp7).trans xp7_0
      replace xp7_1 := (hb.cell (p := ⟨p7, 1, none⟩) hp7).trans xp7_1
      replace hp7 := Nat.lt_of_lt_of_le hp7 hb.size
      replace xpw15_0 := (hb.cell (p := ⟨pw15, 0, none⟩) hpw15).trans xpw15_0
      replace xpw15_1 := (hb.cell (p := ⟨pw15, 1, none⟩) hpw15).trans xpw15_1
      replace hpw15 := Nat.lt_of_lt_of_le hpw15 hb.size
      replace HB := Lib.hid (HB.out.trans (hb.mono hz))
      replace hz := Nat.le_trans hz hb.size
      have HZwc := Lib.hid hb.size
      replace HOr8 := Lib.hid (HOr8.out.later hb)
      replace HOr9 := Lib.hid (HOr9.out.later hb)
      replace HOr13 := Lib.hid (HOr13.out.later hb)
      replace HOr14 := Lib.hid (HOr14.out.later hb)
      replace HA0 := Lib.hid (HA0.out.later hb)
      replace HM0 := Lib.hid (HM0.out.later hb)
      have HOr18 := Lib.hid hoI
      have HUr18 := Lib.hid (fun g (hg : (.slice yr18 T1.length qr18 : Value).ownBlock = some g) => (⟨(hoI.block g hg).1, (hoI.block g hg).2, fun e => b0.not_row (by decide) hoI (by rw [hg, e]), fun e => b1.not_row (by decide) hoI (by rw [hg, e])⟩ : w15.heap.size ≤ g ∧ g < wc.heap.size ∧ g ≠ p16 ∧ g ≠ p17))
      have HOr19 := Lib.hid hoS
      have HUr19 := Lib.hid (fun g (hg : (.slice yr19 T2.length qr19 : Value).ownBlock = some g) => (⟨(hoS.block g hg).1, (hoS.block g hg).2, fun e => b0.not_row (by decide) hoS (by rw [hg, e]), fun e => b1.not_row (by decide) hoS (by rw [hg, e])⟩ : w15.heap.size ≤ g ∧ g < wc.heap.size ∧ g ≠ p16 ∧ g ≠ p17))
      have hp16 := b0.lt
      have xp16_0 := b0.c0
      have xp16_1 := b0.c1
      have Ep16 := Lib.hid n0
      have Sp16 := Lib.hid b0.lt
      have hp17 := b1.lt
      have xp17_0 := b1.c0
      have xp17_1 := b1.c1
      have Ep17 := Lib.hid n1
      have Sp17 := Lib.hid b1.lt
      have Dp16p17 := Lib.hid (b0.other b1 (by decide))
      clear b0 n0 b1 n1 hoI hoS hb
      obtain ⟨w20, rfl⟩ : ∃ W, W = wc := ⟨_, rfl⟩
      go_wp2_with fail
      refine (kit.eqMachineO _ _ (.slice yr18 T1.length qr18) (.slice yr19 T2.length qr19) T1 T2 _ _ (.slice yr8 T1.length qr8) (.slice yr9 T2.length qr9) T1 T2 w20 (by omega) (by omega) HOr18.out HOr19.out (by omega) (by omega) HOr8.out HOr9.out).mono ?_
      rintro e w21 ⟨he, hb⟩
      rw [decide_eq_true ⟨rfl, rfl⟩] at he
      subst he
      replace xpw1_0 := (hb.cell (p := ⟨pw1, 0, none⟩) hpw1).trans xpw1_0
      replace xpw1_1 := (hb.cell (p := ⟨pw1, 1, none⟩) hpw1).trans xpw1_1
      replace hpw1 := Nat.lt_of_lt_of_le hpw1 hb.size
      replace xpw2_0 := (hb.cell (p := ⟨pw2, 0, none⟩) hpw2).trans xpw2_0
      replace xpw2_1 := (hb.cell (p := ⟨pw2, 1, none⟩) hpw2).trans xpw2_1
      replace xpw2_2 := (hb.cell (p := ⟨pw2, 2, none⟩) hpw2).trans xpw2_2
      replace xpw2_3 := (hb.cell (p := ⟨pw2, 3, none⟩) hpw2).trans xpw2_3
      replace xpw2_4 := (hb.cell (p := ⟨pw2, 4, none⟩) hpw2).trans xpw2_4
      replace xpw2_5 := (hb.cell (p := ⟨pw2, 5, none⟩) hpw2).trans xpw2_5
      replace hpw2 := Nat.lt_of_lt_of_le hpw2 hb.size
      replace xp6_0 := (hb.cell (p := ⟨p6, 0, none⟩) hp6).trans xp6_0
      replace xp6_1 := (hb.cell (p := ⟨p6, 1, none⟩) hp6).trans xp6_1
      replace hp6 := Nat.lt_of_lt_of_le hp6 hb.size
      replace xp7_0 := (hb.cell (p := ⟨p7, 0, none⟩) hp7).trans xp7_0
      replace xp7_1 := (hb.cell (p := ⟨p7, 1, none⟩) hp7).trans xp7_1
      replace hp7 := Nat.lt_of_lt_of_le hp7 hb.size
      replace xpw15_0 := (hb.cell (p := ⟨pw15, 0, none⟩) hpw15).trans xpw15_0
      replace xpw15_1 := (hb.cell (p := ⟨pw15, 1, none⟩) hpw15).trans xpw15_1
      replace hpw15 := Nat.lt_of_lt_of_le hpw15 hb.size
      replace xp16_0 := (hb.cell (p := ⟨p16, 0, none⟩) hp16).trans xp16_0
      replace xp16_1 := (hb.cell (p := ⟨p16, 1, none⟩) hp16).trans xp16_1
      replace hp16 := Nat.lt_of_lt_of_le hp16 hb.size
      replace xp17_0 := (hb.cell (p := ⟨p17, 0, none⟩) hp17).trans xp17_0
      replace xp17_1 := (hb.cell (p := ⟨p17, 1, none⟩) hp17).trans xp17_1
      replace hp17 := Nat.lt_of_lt_of_le hp17 hb.size
      replace HB := Lib.hid (HB.out.trans (hb.mono hz))
      replace hz := Nat.le_trans hz hb.size
      have HZw21 := Lib.hid hb.size
      replace HOr8 := Lib.hid (HOr8.out.later hb)
      replace HOr9 := Lib.hid (HOr9.out.later hb)
      replace HOr13 := Lib.hid (HOr13.out.later hb)
      replace HOr14 := Lib.hid (HOr14.out.later hb)
      replace HOr18 := Lib.hid (HOr18.out.later hb)
      replace HOr19 := Lib.hid (HOr19.out.later hb)
      replace HA0 := Lib.hid (HA0.out.later hb)
      replace HM0 := Lib.hid (HM0.out.later hb)
      clear hb
      go_wp2_with fail
      refine (kit.eqResult T3 T4 T3 T4 w21).mono ?_
      rintro e w22 ⟨he, hb⟩
      rw [decide_eq_true rfl, decide_eq_true rfl] at he
      subst he
      replace xpw1_0 := (hb.cell (p := ⟨pw1, 0, none⟩) hpw1).trans xpw1_0
      replace xpw1_1 := (hb.cell (p := ⟨pw1, 1, none⟩) hpw1).trans xpw1_1
      replace hpw1 := Nat.lt_of_lt_of_le hpw1 hb.size
      replace xpw2_0 := (hb.cell (p := ⟨pw2, 0, none⟩) hpw2).trans xpw2_0
      replace xpw2_1 := (hb.cell (p := ⟨pw2, 1, none⟩) hpw2).trans xpw2_1
      replace xpw2_2 := (hb.cell (p := ⟨pw2, 2, none⟩) hpw2).trans xpw2_2
      replace xpw2_3 := (hb.cell (p := ⟨pw2, 3, none⟩) hpw2).trans xpw2_3
      replace xpw2_4 := (hb.cell (p := ⟨pw2, 4, none⟩) hpw2).trans xpw2_4
      replace xpw2_5 := (hb.cell (p := ⟨pw2, 5, none⟩) hpw2).trans xpw2_5
      replace hpw2 := Nat.lt_of_lt_of_le hpw2 hb.size
      replace xp6_0 := (hb.cell (p := ⟨p6, 0, none⟩) hp6).trans xp6_0
      replace xp6_1 := (hb.cell (p := ⟨p6, 1, none⟩) hp6).trans xp6_1
      replace hp6 := Nat.lt_of_lt_of_le hp6 hb.size
      replace xp7_0 := (hb.cell (p := ⟨p7, 0, none⟩) hp7).trans xp7_0
      replace xp7_1 := (hb.cell (p := ⟨p7, 1, none⟩) hp7).trans xp7_1
      replace hp7 := Nat.lt_of_lt_of_le hp7 hb.size
      replace xpw15_0 := (hb.cell (p := ⟨pw15, 0, none⟩) hpw15).trans xpw15_0
      replace xpw15_1 := (hb.cell (p := ⟨pw15, 1, none⟩) hpw15).trans xpw15_1
      replace hpw15 := Nat.lt_of_lt_of_le hpw15 hb.size
      replace xp16_0 := (hb.cell (p := ⟨p16, 0, none⟩) hp16).trans xp16_0
      replace xp16_1 := (hb.cell (p := ⟨p16, 1, none⟩) hp16).trans xp16_1
      replace hp16 := Nat.lt_of_lt_of_le hp16 hb.size
      replace xp17_0 := (hb.cell (p := ⟨p17, 0, none⟩) hp17).trans xp17_0
      replace xp17_1 := (hb.cell (p := ⟨p17, 1, none⟩) hp17).trans xp17_1
      replace hp17 := Nat.lt_of_lt_of_le hp17 hb.size
      replace HB := Lib.hid (HB.out.trans (hb.mono hz))
      replace hz := Nat.le_trans hz hb.size
      have HZw22 := Lib.hid hb.size
      replace HOr8 := Lib.hid (HOr8.out.later hb)
      replace HOr9 := Lib.hid (HOr9.out.later hb)
      replace HOr13 := Lib.hid (HOr13.out.later hb)
      replace HOr14 := Lib.hid (HOr14.out.later hb)
      replace HOr18 := Lib.hid (HOr18.out.later hb)
      replace HOr19 := Lib.hid (HOr19.out.later hb)
      replace HA0 := Lib.hid (HA0.out.later hb)
      replace HM0 := Lib.hid (HM0.out.later hb)
      clear hb
      go_wp2_with fail
      go_upto_region 10 with (fail)
      go_cut [62] (fun b wx => b = .bool false ∧ Below w22.heap.size w22 wx)
      case first =>
        have hW0 := (Below.refl w22.heap.size w22).drew
        go_region_with (first | (go_at_call 33; (with_reducible refine (kit.toMachine a0 c0 L0 b0 d0 M0 _ (by omega) (by omega) (HA0.out.later hW0) (HM0.out.later hW0)).mono ?_); rintro e wa ⟨uI, uS, rfl, hoI, hoS, hb⟩; obtain ⟨ya, qa, rfl⟩ := hoI.shape; obtain ⟨yb, qb, rfl⟩ := hoS.shape; have hB0 := hW0.trans (hb.mono hW0.size); have xpw1_0 := (hB0.cell (p := ⟨pw1, 0, none⟩) hpw1).trans xpw1_0; have xpw1_1 := (hB0.cell (p := ⟨pw1, 1, none⟩) hpw1).trans xpw1_1; have xpw2_0 := (hB0.cell (p := ⟨pw2, 0, none⟩) hpw2).trans xpw2_0; have xpw2_1 := (hB0.cell (p := ⟨pw2, 1, none⟩) hpw2).trans xpw2_1; have xpw2_2 := (hB0.cell (p := ⟨pw2, 2, none⟩) hpw2).trans xpw2_2; have xpw2_3 := (hB0.cell (p := ⟨pw2, 3, none⟩) hpw2).trans xpw2_3; have xpw2_4 := (hB0.cell (p := ⟨pw2, 4, none⟩) hpw2).trans xpw2_4; have xpw2_5 := (hB0.cell (p := ⟨pw2, 5, none⟩) hpw2).trans xpw2_5; have xp6_0 := (hB0.cell (p := ⟨p6, 0, none⟩) hp6).trans xp6_0; have xp6_1 := (hB0.cell (p := ⟨p6, 1, none⟩) hp6).trans xp6_1; have xp7_0 := (hB0.cell (p := ⟨p7, 0, none⟩) hp7).trans xp7_0; have xp7_1 := (hB0.cell (p := ⟨p7, 1, none⟩) hp7).trans xp7_1; have xpw15_0 := (hB0.cell (p := ⟨pw15, 0, none⟩) hpw15).trans xpw15_0; have xpw15_1 := (hB0.cell (p := ⟨pw15, 1, none⟩) hpw15).trans xpw15_1; have xp16_0 := (hB0.cell (p := ⟨p16, 0, none⟩) hp16).trans xp16_0; have xp16_1 := (hB0.cell (p := ⟨p16, 1, none⟩) hp16).trans xp16_1; have xp17_0 := (hB0.cell (p := ⟨p17, 0, none⟩) hp17).trans xp17_0; have xp17_1 := (hB0.cell (p := ⟨p17, 1, none⟩) hp17).trans xp17_1; clear hb) | (go_at_call 35; refine (kit.eqMachineO _ _ (.slice yr13 L0.length qr13) (.slice yr14 M0.length qr14) L0 M0 _ _ (.slice ya L0.length qa) (.slice yb M0.length qb) L0 M0 _ (by omega) (by omega) (HOr13.out.later hB0) (HOr14.out.later hB0) (by omega) (by omega) hoI hoS).mono ?_; rintro e wz ⟨he, hb⟩; rw [decide_eq_true ⟨rfl, rfl⟩] at he; subst he; have hB9 := hB0.trans (hb.mono hB0.size); clear hb))
        all_goals
          go_wp2_with fail
          go_meet
          exact ⟨rfl, hB9⟩
      case rest =>
        obtain ⟨rfl, hb⟩ := hcut
        replace xpw1_0 := (hb.cell (p := ⟨pw1, 0, none⟩) hpw1).trans xpw1_0
        replace xpw1_1 := (hb.cell (p := ⟨pw1, 1, none⟩) hpw1).trans xpw1_1
        replace hpw1 := Nat.lt_of_lt_of_le hpw1 hb.size
        replace xpw2_0 := (hb.cell (p := ⟨pw2, 0, none⟩) hpw2).trans xpw2_0
        replace xpw2_1 := (hb.cell (p := ⟨pw2, 1, none⟩) hpw2).trans xpw2_1
        replace xpw2_2 := (hb.cell (p := ⟨pw2, 2, none⟩) hpw2).trans xpw2_2
        replace xpw2_3 := (hb.cell (p := ⟨pw2, 3, none⟩) hpw2).trans xpw2_3
        replace xpw2_4 := (hb.cell (p := ⟨pw2, 4, none⟩) hpw2).trans xpw2_4
        replace xpw2_5 := (hb.cell (p := ⟨pw2, 5, none⟩) hpw2).trans xpw2_5
        replace hpw2 := Nat.lt_of_lt_of_le hpw2 hb.size
        replace xp6_0 := (hb.cell (p := ⟨p6, 0, none⟩) hp6).trans xp6_0
        replace xp6_1 := (hb.cell (p := ⟨p6, 1, none⟩) hp6).trans xp6_1
        replace hp6 := Nat.lt_of_lt_of_le hp6 hb.size
        replace xp7_0 := (hb.cell (p := ⟨p7, 0, none⟩) hp7).trans xp7_0
        replace xp7_1 := (hb.cell (p := ⟨p7, 1, none⟩) hp7).trans xp7_1
        replace hp7 := Nat.lt_of_lt_of_le hp7 hb.size
        replace xpw15_0 := (hb.cell (p := ⟨pw15, 0, none⟩) hpw15).trans xpw15_0
        replace xpw15_1 := (hb.cell (p := ⟨pw15, 1, none⟩) hpw15).trans xpw15_1
        replace hpw15 := Nat.lt_of_lt_of_le hpw15 hb.size
        replace xp16_0 := (hb.cell (p := ⟨p16, 0, none⟩) hp16).trans xp16_0
        replace xp16_1 := (hb.cell (p := ⟨p16, 1, none⟩) hp16).trans xp16_1
        replace hp16 := Nat.lt_of_lt_of_le hp16 hb.size
        replace xp17_0 := (hb.cell (p := ⟨p17, 0, none⟩) hp17).trans xp17_0
        replace xp17_1 := (hb.cell (p := ⟨p17, 1, none⟩) hp17).trans xp17_1
        replace hp17 := Nat.lt_of_lt_of_le hp17 hb.size
        replace HB := Lib.hid (HB.out.trans (hb.mono hz))
        replace hz := Nat.le_trans hz hb.size
        have HZwc := Lib.hid hb.size
        replace HOr8 := Lib.hid (HOr8.out.later hb)
        replace HOr9 := Lib.hid (HOr9.out.later hb)
        replace HOr13 := Lib.hid (HOr13.out.later hb)
        replace HOr14 := Lib.hid (HOr14.out.later hb)
        replace HOr18 := Lib.hid (HOr18.out.later hb)
        replace HOr19 := Lib.hid (HOr19.out.later hb)
        replace HA0 := Lib.hid (HA0.out.later hb)
        replace HM0 := Lib.hid (HM0.out.later hb)
        clear hb
        obtain ⟨w23, rfl⟩ : ∃ W, W = wc := ⟨_, rfl⟩
        go_wp2_with fail
        refine (kit.markMachine _ _ (.slice yr13 L0.length qr13) (.slice yr14 M0.length qr14) L0 M0 w23 (by omega) (by omega) HOr13.out HOr14.out 1 rfl).mono ?_
        rintro e w24 ⟨rfl, hoI, hoS, wa, wb, hA, hg1, hg2⟩
        have hap1 := kit.own_apart hoI hoS
        have hb : Below w.heap.size w23 w24 := ((hA.mono hz).grown hg1 (Nat.le_trans hz hA.size) (fun g h => by have := HUr13.out g h; have := Epw1.out; have := Sw1.out; have := HZw1.out; have := Epw2.out; have := Sw2.out; have := HZw2.out; have := HZw3.out; have := HZwc.out; have := Ep6.out; have := Sp6.out; have := Ep7.out; have := Sp7.out; have := Dp6p7.out; have := HZw11.out; have := Epw15.out; have := Sw15.out; have := HZw15.out; have := HZwc.out; have := Ep16.out; have := Sp16.out; have := Ep17.out; have := Sp17.out; have := Dp16p17.out; have := HZw21.out; have := HZw22.out; have := HZwc.out; omega)).grown hg2 (Nat.le_trans hz (Nat.le_trans hA.size hg1.size)) (fun g h => by have := HUr14.out g h; have := Epw1.out; have := Sw1.out; have := HZw1.out; have := Epw2.out; have := Sw2.out; have := HZw2.out; have := HZw3.out; have := HZwc.out; have := Ep6.out; have := Sp6.out; have := Ep7.out; have := Sp7.out; have := Dp6p7.out; have := HZw11.out; have := Epw15.out; have := Sw15.out; have := HZw15.out; have := HZwc.out; have := Ep16.out; have := Sp16.out; have := Ep17.out; have := Sp17.out; have := Dp16p17.out; have := HZw21.out; have := HZw22.out; have := HZwc.out; omega)
        have hs : w23.heap.size ≤ w24.heap.size := hb.size
        replace xpw1_0 := (World.cell?_of_block (a := ⟨pw1, 0, none⟩) (kit.still hA hg1 hg2 (b := pw1) hpw1 (fun e => by have := HUr13.out _ e; have := Epw1.out; have := Sw1.out; have := HZw1.out; have := Epw2.out; have := Sw2.out; have := HZw2.out; have := HZw3.out; have := HZwc.out; have := Ep6.out; have := Sp6.out; have := Ep7.out; have := Sp7.out; have := Dp6p7.out; have := HZw11.out; have := Epw15.out; have := Sw15.out; have := HZw15.out; have := HZwc.out; have := Ep16.out; have := Sp16.out; have := Ep17.out; have := Sp17.out; have := Dp16p17.out; have := HZw21.out; have := HZw22.out; have := HZwc.out; omega) (fun e => by have := HUr14.out _ e; have := Epw1.out; have := Sw1.out; have := HZw1.out; have := Epw2.out; have := Sw2.out; have := HZw2.out; have := HZw3.out; have := HZwc.out; have := Ep6.out; have := Sp6.out; have := Ep7.out; have := Sp7.out; have := Dp6p7.out; have := HZw11.out; have := Epw15.out; have := Sw15.out; have := HZw15.out; have := HZwc.out; have := Ep16.out; have := Sp16.out; have := Ep17.out; have := Sp17.out; have := Dp16p17.out; have := HZw21.out; have := HZw22.out; have := HZwc.out; omega))).trans xpw1_0
        replace xpw1_1 := (World.cell?_of_block (a := ⟨pw1, 1, none⟩) (kit.still hA hg1 hg2 (b := pw1) hpw1 (fun e => by have := HUr13.out _ e; have := Epw1.out; have := Sw1.out; have := HZw1.out; have := Epw2.out; have := Sw2.out; have := HZw2.out; have := HZw3.out; have := HZwc.out; have := Ep6.out; have := Sp6.out; have := Ep7.out; have := Sp7.out; have := Dp6p7.out; have := HZw11.out; have := Epw15.out; have := Sw15.out; have := HZw15.out; have := HZwc.out; have := Ep16.out; have := Sp16.out; have := Ep17.out; have := Sp17.out; have := Dp16p17.out; have := HZw21.out; have := HZw22.out; have := HZwc.out; omega) (fun e => by have := HUr14.out _ e; have := Epw1.out; have := Sw1.out; have := HZw1.out; have := Epw2.out; have := Sw2.out; have := HZw2.out; have := HZw3.out; have := HZwc.out; have := Ep6.out; have := Sp6.out; have := Ep7.out; have := Sp7.out; have := Dp6p7.out; have := HZw11.out; have := Epw15.out; have := Sw15.out; have := HZw15.out; have := HZwc.out; have := Ep16.out; have := Sp16.out; have := Ep17.out; have := Sp17.out; have := Dp16p17.out; have := HZw21.out; have := HZw22.out; have := HZwc.out; omega))).trans xpw1_1
        replace hpw1 := Nat.lt_of_lt_of_le hpw1 hs
        replace xpw2_0 := (World.cell?_of_block (a := ⟨pw2, 0, none⟩) (kit.still hA hg1 hg2 (b := pw2) hpw2 (fun e => by have := HUr13.out _ e; have := Epw1.out; have := Sw1.out; have := HZw1.out; have := Epw2.out; have := Sw2.out; have := HZw2.out; have := HZw3.out; have := HZwc.out; have := Ep6.out; have := Sp6.out; have := Ep7.out; have := Sp7.out; have := Dp6p7.out; have := HZw11.out; have := Epw15.out; have := Sw15.out; have := HZw15.out; have := HZwc.out; have := Ep16.out; have := Sp16.out; have := Ep17.out; have := Sp17.out; have := Dp16p17.out; have := HZw21.out; have := HZw22.out; have := HZwc.out; omega) (fun e => by have := HUr14.out _ e; have := Epw1.out; have := Sw1.out; have := HZw1.out; have := Epw2.out; have := Sw2.out; have := HZw2.out; have := HZw3.out; have := HZwc.out; have := Ep6.out; have := Sp6.out; have := Ep7.out; have := Sp7.out; have := Dp6p7.out; have := HZw11.out; have := Epw15.out; have := Sw15.out; have := HZw15.out; have := HZwc.out; have := Ep16.out; have := Sp16.out; have := Ep17.out; have := Sp17.out; have := Dp16p17.out; have := HZw21.out; have := HZw22.out; have := HZwc.out; omega))).trans xpw2_0
        replace xpw2_1 := (World.cell?_of_block (a := ⟨pw2, 1, none⟩) (kit.still hA hg1 hg2 (b := pw2) hpw2 (fun e => by have := HUr13.out _ e; have := Epw1.out; have := Sw1.out; have := HZw1.out; have := Epw2.out; have := Sw2.out; have := HZw2.out; have := HZw3.out; have := HZwc.out; have := Ep6.out; have := Sp6.out; have := Ep7.out; have := Sp7.out; have := Dp6p7.out; have := HZw11.out; have := Epw15.out; have := Sw15.out; have := HZw15.out; have := HZwc.out; have := Ep16.out; have := Sp16.out; have := Ep17.out; have := Sp17.out; have := Dp16p17.out; have := HZw21.out; have := HZw22.out; have := HZwc.out; omega) (fun e => by have := HUr14.out _ e; have := Epw1.out; have := Sw1.out; have := HZw1.out; have := Epw2.out; have := Sw2.out; have := HZw2.out; have := HZw3.out; have := HZwc.out; have := Ep6.out; have := Sp6.out; have := Ep7.out; have := Sp7.out; have := Dp6p7.out; have := HZw11.out; have := Epw15.out; have := Sw15.out; have := HZw15.out; have := HZwc.out; have := Ep16.out; have := Sp16.out; have := Ep17.out; have := Sp17.out; have := Dp16p17.out; have := HZw21.out; have := HZw22.out; have := HZwc.out; omega))).trans xpw2_1
        replace xpw2_2 := (World.cell?_of_block (a := ⟨pw2, 2, none⟩) (kit.still hA hg1 hg2 (b := pw2) hpw2 (fun e => by have := HUr13.out _ e; have := Epw1.out; have := Sw1.out; have := HZw1.out; have := Epw2.out; have := Sw2.out; have := HZw2.out; have := HZw3.out; have := HZwc.out; have := Ep6.out; have := Sp6.out; have := Ep7.out; have := Sp7.out; have := Dp6p7.out; have := HZw11.out; have := Epw15.out; have := Sw15.out; have := HZw15.out; have := HZwc.out; have := Ep16.out; have := Sp16.out; have := Ep17.out; have := Sp17.out; have := Dp16p17.out; have := HZw21.out; have := HZw22.out; have := HZwc.out; omega) (fun e => by have := HUr14.out _ e; have := Epw1.out; have := Sw1.out; have := HZw1.out; have := Epw2.out; have := Sw2.out; have := HZw2.out; have := HZw3.out; have := HZwc.out; have := Ep6.out; have := Sp6.out; have := Ep7.out; have := Sp7.out; have := Dp6p7.out; have := HZw11.out; have := Epw15.out; have := Sw15.out; have := HZw15.out; have := HZwc.out; have := Ep16.out; have := Sp16.out; have := Ep17.out; have := Sp17.out; have := Dp16p17.out; have := HZw21.out; have := HZw22.out; have := HZwc.out; omega))).trans xpw2_2
        replace xpw2_3 := (World.cell?_of_block (a := ⟨pw2, 3, none⟩) (kit.still hA hg1 hg2 (b := pw2) hpw2 (fun e => by have := HUr13.out _ e; have := Epw1.out; have := Sw1.out; have := HZw1.out; have := Epw2.out; have := Sw2.out; have := HZw2.out; have := HZw3.out; have := HZwc.out; have := Ep6.out; have := Sp6.out; have := Ep7.out; have := Sp7.out; have := Dp6p7.out; have := HZw11.out; have := Epw15.out; have := Sw15.out; have := HZw15.out; have := HZwc.out; have := Ep16.out; have := Sp16.out; have := Ep17.out; have := Sp17.out; have := Dp16p17.out; have := HZw21.out; have := HZw22.out; have := HZwc.out; omega) (fun e => by have := HUr14.out _ e; have := Epw1.out; have := Sw1.out; have := HZw1.out; have := Epw2.out; have := Sw2.out; have := HZw2.out; have := HZw3.out; have := HZwc.out; have := Ep6.out; have := Sp6.out; have := Ep7.out; have := Sp7.out; have := Dp6p7.out; have := HZw11.out; have := Epw15.out; have := Sw15.out; have := HZw15.out; have := HZwc.out; have := Ep16.out; have := Sp16.out; have := Ep17.out; have := Sp17.out; have := Dp16p17.out; have := HZw21.out; have := HZw22.out; have := HZwc.out; omega))).trans xpw2_3
        replace xpw2_4 := (World.cell?_of_block (a := ⟨pw2, 4, none⟩) (kit.still hA hg1 hg2 (b := pw2) hpw2 (fun e => by have := HUr13.out _ e; have := Epw1.out; have := Sw1.out; have := HZw1.out; have := Epw2.out; have := Sw2.out; have := HZw2.out; have := HZw3.out; have := HZwc.out; have := Ep6.out; have := Sp6.out; have := Ep7.out; have := Sp7.out; have := Dp6p7.out; have := HZw11.out; have := Epw15.out; have := Sw15.out; have := HZw15.out; have := HZwc.out; have := Ep16.out; have := Sp16.out; have := Ep17.out; have := Sp17.out; have := Dp16p17.out; have := HZw21.out; have := HZw22.out; have := HZwc.out; omega) (fun e => by have := HUr14.out _ e; have := Epw1.out; have := Sw1.out; have := HZw1.out; have := Epw2.out; have := Sw2.out; have := HZw2.out; have := HZw3.out; have := HZwc.out; have := Ep6.out; have := Sp6.out; have := Ep7.out; have := Sp7.out; have := Dp6p7.out; have := HZw11.out; have := Epw15.out; have := Sw15.out; have := HZw15.out; have := HZwc.out; have := Ep16.out; have := Sp16.out; have := Ep17.out; have := Sp17.out; have := Dp16p17.out; have := HZw21.out; have := HZw22.out; have := HZwc.out; omega))).trans xpw2_4
        replace xpw2_5 := (World.cell?_of_block (a := ⟨pw2, 5, none⟩) (kit.still hA hg1 hg2 (b := pw2) hpw2 (fun e => by have := HUr13.out _ e; have := Epw1.out; have := Sw1.out; have := HZw1.out; have := Epw2.out; have := Sw2.out; have := HZw2.out; have := HZw3.out; have := HZwc.out; have := Ep6.out; have := Sp6.out; have := Ep7.out; have := Sp7.out; have := Dp6p7.out; have := HZw11.out; have := Epw15.out; have := Sw15.out; have := HZw15.out; have := HZwc.out; have := Ep16.out; have := Sp16.out; have := Ep17.out; have := Sp17.out; have := Dp16p17.out; have := HZw21.out; have := HZw22.out; have := HZwc.out; omega) (fun e => by have := HUr14.out _ e; have := Epw1.out; have := Sw1.out; have := HZw1.out; have := Epw2.out; have := Sw2.out; have := HZw2.out; have := HZw3.out; have := HZwc.out; have := Ep6.out; have := Sp6.out; have := Ep7.out; have := Sp7.out; have := Dp6p7.out; have := HZw11.out; have := Epw15.out; have := Sw15.out; have := HZw15.out; have := HZwc.out; have := Ep16.out; have := Sp16.out; have := Ep17.out; have := Sp17.out; have := Dp16p17.out; have := HZw21.out; have := HZw22.out; have := HZwc.out; omega))).trans xpw2_5
        replace hpw2 := Nat.lt_of_lt_of_le hpw2 hs
        replace xp6_0 := (World.cell?_of_block (a := ⟨p6, 0, none⟩) (kit.still hA hg1 hg2 (b := p6) hp6 (fun e => by have := HUr13.out _ e; have := Epw1.out; have := Sw1.out; have := HZw1.out; have := Epw2.out; have := Sw2.out; have := HZw2.out; have := HZw3.out; have := HZwc.out; have := Ep6.out; have := Sp6.out; have := Ep7.out; have := Sp7.out; have := Dp6p7.out; have := HZw11.out; have := Epw15.out; have := Sw15.out; have := HZw15.out; have := HZwc.out; have := Ep16.out; have := Sp16.out; have := Ep17.out; have := Sp17.out; have := Dp16p17.out; have := HZw21.out; have := HZw22.out; have := HZwc.out; omega) (fun e => by have := HUr14.out _ e; have := Epw1.out; have := Sw1.out; have := HZw1.out; have := Epw2.out; have := Sw2.out; have := HZw2.out; have := HZw3.out; have := HZwc.out; have := Ep6.out; have := Sp6.out; have := Ep7.out; have := Sp7.out; have := Dp6p7.out; have := HZw11.out; have := Epw15.out; have := Sw15.out; have := HZw15.out; have := HZwc.out; have := Ep16.out; have := Sp16.out; have := Ep17.out; have := Sp17.out; have := Dp16p17.out; have := HZw21.out; have := HZw22.out; have := HZwc.out; omega))).trans xp6_0
        replace xp6_1 := (World.cell?_of_block (a := ⟨p6, 1, none⟩) (kit.still hA hg1 hg2 (b := p6) hp6 (fun e => by have := HUr13.out _ e; have := Epw1.out; have := Sw1.out; have := HZw1.out; have := Epw2.out; have := Sw2.out; have := HZw2.out; have := HZw3.out; have := HZwc.out; have := Ep6.out; have := Sp6.out; have := Ep7.out; have := Sp7.out; have := Dp6p7.out; have := HZw11.out; have := Epw15.out; have := Sw15.out; have := HZw15.out; have := HZwc.out; have := Ep16.out; have := Sp16.out; have := Ep17.out; have := Sp17.out; have := Dp16p17.out; have := HZw21.out; have := HZw22.out; have := HZwc.out; omega) (fun e => by have := HUr14.out _ e; have := Epw1.out; have := Sw1.out; have := HZw1.out; have := Epw2.out; have := Sw2.out; have := HZw2.out; have := HZw3.out; have := HZwc.out; have := Ep6.out; have := Sp6.out; have := Ep7.out; have := Sp7.out; have := Dp6p7.out; have := HZw11.out; have := Epw15.out; have := Sw15.out; have := HZw15.out; have := HZwc.out; have := Ep16.out; have := Sp16.out; have := Ep17.out; have := Sp17.out; have := Dp16p17.out; have := HZw21.out; have := HZw22.out; have := HZwc.out; omega))).trans xp6_1
        replace hp6 := Nat.lt_of_lt_of_le hp6 hs
        replace xp7_0 := (World.cell?_of_block (a := ⟨p7, 0, none⟩) (kit.still hA hg1 hg2 (b := p7) hp7 (fun e => by have := HUr13.out _ e; have := Epw1.out; have := Sw1.out; have := HZw1.out; have := Epw2.out; have := Sw2.out; have := HZw2.out; have := HZw3.out; have := HZwc.out; have := Ep6.out; have := Sp6.out; have := Ep7.out; have := Sp7.out; have := Dp6p7.out; have := HZw11.out; have := Epw15.out; have := Sw15.out; have := HZw15.out; have := HZwc.out; have := Ep16.out; have := Sp16.out; have := Ep17.out; have := Sp17.out; have := Dp16p17.out; have := HZw21.out; have := HZw22.out; have := HZwc.out; omega) (fun e => by have := HUr14.out _ e; have := Epw1.out; have := Sw1.out; have := HZw1.out; have := Epw2.out; have := Sw2.out; have := HZw2.out; have := HZw3.out; have := HZwc.out; have := Ep6.out; have := Sp6.out; have := Ep7.out; have := Sp7.out; have := Dp6p7.out; have := HZw11.out; have := Epw15.out; have := Sw15.out; have := HZw15.out; have := HZwc.out; have := Ep16.out; have := Sp16.out; have := Ep17.out; have := Sp17.out; have := Dp16p17.out; have := HZw21.out; have := HZw22.out; have := HZwc.out; omega))).trans xp7_0
        replace xp7_1 := (World.cell?_of_block (a := ⟨p7, 1, none⟩) (kit.still hA hg1 hg2 (b := p7) hp7 (fun e => by have := HUr13.out _ e; have := Epw1.out; have := Sw1.out; have := HZw1.out; have := Epw2.out; have := Sw2.out; have := HZw2.out; have := HZw3.out; have := HZwc.out; have := Ep6.out; have := Sp6.out; have := Ep7.out; have := Sp7.out; have := Dp6p7.out; have := HZw11.out; have := Epw15.out; have := Sw15.out; have := HZw15.out; have := HZwc.out; have := Ep16.out; have := Sp16.out; have := Ep17.out; have := Sp17.out; have := Dp16p17.out; have := HZw21.out; have := HZw22.out; have := HZwc.out; omega) (fun e => by have := HUr14.out _ e; have := Epw1.out; have := Sw1.out; have := HZw1.out; have := Epw2.out; have := Sw2.out; have := HZw2.out; have := HZw3.out; have := HZwc.out; have := Ep6.out; have := Sp6.out; have := Ep7.out; have := Sp7.out; have := Dp6p7.out; have := HZw11.out; have := Epw15.out; have := Sw15.out; have := HZw15.out; have := HZwc.out; have := Ep16.out; have := Sp16.out; have := Ep17.out; have := Sp17.out; have := Dp16p17.out; have := HZw21.out; have := HZw22.out; have := HZwc.out; omega))).trans xp7_1
        replace hp7 := Nat.lt_of_lt_of_le hp7 hs
        replace xpw15_0 := (World.cell?_of_block (a := ⟨pw15, 0, none⟩) (kit.still hA hg1 hg2 (b := pw15) hpw15 (fun e => by have := HUr13.out _ e; have := Epw1.out; have := Sw1.out; have := HZw1.out; have := Epw2.out; have := Sw2.out; have := HZw2.out; have := HZw3.out; have := HZwc.out; have := Ep6.out; have := Sp6.out; have := Ep7.out; have := Sp7.out; have := Dp6p7.out; have := HZw11.out; have := Epw15.out; have := Sw15.out; have := HZw15.out; have := HZwc.out; have := Ep16.out; have := Sp16.out; have := Ep17.out; have := Sp17.out; have := Dp16p17.out; have := HZw21.out; have := HZw22.out; have := HZwc.out; omega) (fun e => by have := HUr14.out _ e; have := Epw1.out; have := Sw1.out; have := HZw1.out; have := Epw2.out; have := Sw2.out; have := HZw2.out; have := HZw3.out; have := HZwc.out; have := Ep6.out; have := Sp6.out; have := Ep7.out; have := Sp7.out; have := Dp6p7.out; have := HZw11.out; have := Epw15.out; have := Sw15.out; have := HZw15.out; have := HZwc.out; have := Ep16.out; have := Sp16.out; have := Ep17.out; have := Sp17.out; have := Dp16p17.out; have := HZw21.out; have := HZw22.out; have := HZwc.out; omega))).trans xpw15_0
        replace xpw15_1 := (World.cell?_of_block (a := ⟨pw15, 1, none⟩) (kit.still hA hg1 hg2 (b := pw15) hpw15 (fun e => by have := HUr13.out _ e; have := Epw1.out; have := Sw1.out; have := HZw1.out; have := Epw2.out; have := Sw2.out; have := HZw2.out; have := HZw3.out; have := HZwc.out; have := Ep6.out; have := Sp6.out; have := Ep7.out; have := Sp7.out; have := Dp6p7.out; have := HZw11.out; have := Epw15.out; have := Sw15.out; have := HZw15.out; have := HZwc.out; have := Ep16.out; have := Sp16.out; have := Ep17.out; have := Sp17.out; have := Dp16p17.out; have := HZw21.out; have := HZw22.out; have := HZwc.out; omega) (fun e => by have := HUr14.out _ e; have := Epw1.out; have := Sw1.out; have := HZw1.out; have := Epw2.out; have := Sw2.out; have := HZw2.out; have := HZw3.out; have := HZwc.out; have := Ep6.out; have := Sp6.out; have := Ep7.out; have := Sp7.out; have := Dp6p7.out; have := HZw11.out; have := Epw15.out; have := Sw15.out; have := HZw15.out; have := HZwc.out; have := Ep16.out; have := Sp16.out; have := Ep17.out; have := Sp17.out; have := Dp16p17.out; have := HZw21.out; have := HZw22.out; have := HZwc.out; omega))).trans xpw15_1
        replace hpw15 := Nat.lt_of_lt_of_le hpw15 hs
        replace xp16_0 := (World.cell?_of_block (a := ⟨p16, 0, none⟩) (kit.still hA hg1 hg2 (b := p16) hp16 (fun e => by have := HUr13.out _ e; have := Epw1.out; have := Sw1.out; have := HZw1.out; have := Epw2.out; have := Sw2.out; have := HZw2.out; have := HZw3.out; have := HZwc.out; have := Ep6.out; have := Sp6.out; have := Ep7.out; have := Sp7.out; have := Dp6p7.out; have := HZw11.out; have := Epw15.out; have := Sw15.out; have := HZw15.out; have := HZwc.out; have := Ep16.out; have := Sp16.out; have := Ep17.out; have := Sp17.out; have := Dp16p17.out; have := HZw21.out; have := HZw22.out; have := HZwc.out; omega) (fun e => by have := HUr14.out _ e; have := Epw1.out; have := Sw1.out; have := HZw1.out; have := Epw2.out; have := Sw2.out; have := HZw2.out; have := HZw3.out; have := HZwc.out; have := Ep6.out; have := Sp6.out; have := Ep7.out; have := Sp7.out; have := Dp6p7.out; have := HZw11.out; have := Epw15.out; have := Sw15.out; have := HZw15.out; have := HZwc.out; have := Ep16.out; have := Sp16.out; have := Ep17.out; have := Sp17.out; have := Dp16p17.out; have := HZw21.out; have := HZw22.out; have := HZwc.out; omega))).trans xp16_0
        replace xp16_1 := (World.cell?_of_block (a := ⟨p16, 1, none⟩) (kit.still hA hg1 hg2 (b := p16) hp16 (fun e => by have := HUr13.out _ e; have := Epw1.out; have := Sw1.out; have := HZw1.out; have := Epw2.out; have := Sw2.out; have := HZw2.out; have := HZw3.out; have := HZwc.out; have := Ep6.out; have := Sp6.out; have := Ep7.out; have := Sp7.out; have := Dp6p7.out; have := HZw11.out; have := Epw15.out; have := Sw15.out; have := HZw15.out; have := HZwc.out; have := Ep16.out; have := Sp16.out; have := Ep17.out; have := Sp17.out; have := Dp16p17.out; have := HZw21.out; have := HZw22.out; have := HZwc.out; omega) (fun e => by have := HUr14.out _ e; have := Epw1.out; have := Sw1.out; have := HZw1.out; have := Epw2.out; have := Sw2.out; have := HZw2.out; have := HZw3.out; have := HZwc.out; have := Ep6.out; have := Sp6.out; have := Ep7.out; have := Sp7.out; have := Dp6p7.out; have := HZw11.out; have := Epw15.out; have := Sw15.out; have := HZw15.out; have := HZwc.out; have := Ep16.out; have := Sp16.out; have := Ep17.out; have := Sp17.out; have := Dp16p17.out; have := HZw21.out; have := HZw22.out; have := HZwc.out; omega))).trans xp16_1
        replace hp16 := Nat.lt_of_lt_of_le hp16 hs
        replace xp17_0 := (World.cell?_of_block (a := ⟨p17, 0, none⟩) (kit.still hA hg1 hg2 (b := p17) hp17 (fun e => by have := HUr13.out _ e; have := Epw1.out; have := Sw1.out; have := HZw1.out; have := Epw2.out; have := Sw2.out; have := HZw2.out; have := HZw3.out; have := HZwc.out; have := Ep6.out; have := Sp6.out; have := Ep7.out; have := Sp7.out; have := Dp6p7.out; have := HZw11.out; have := Epw15.out; have := Sw15.out; have := HZw15.out; have := HZwc.out; have := Ep16.out; have := Sp16.out; have := Ep17.out; have := Sp17.out; have := Dp16p17.out; have := HZw21.out; have := HZw22.out; have := HZwc.out; omega) (fun e => by have := HUr14.out _ e; have := Epw1.out; have := Sw1.out; have := HZw1.out; have := Epw2.out; have := Sw2.out; have := HZw2.out; have := HZw3.out; have := HZwc.out; have := Ep6.out; have := Sp6.out; have := Ep7.out; have := Sp7.out; have := Dp6p7.out; have := HZw11.out; have := Epw15.out; have := Sw15.out; have := HZw15.out; have := HZwc.out; have := Ep16.out; have := Sp16.out; have := Ep17.out; have := Sp17.out; have := Dp16p17.out; have := HZw21.out; have := HZw22.out; have := HZwc.out; omega))).trans xp17_0
        replace xp17_1 := (World.cell?_of_block (a := ⟨p17, 1, none⟩) (kit.still hA hg1 hg2 (b := p17) hp17 (fun e => by have := HUr13.out _ e; have := Epw1.out; have := Sw1.out; have := HZw1.out; have := Epw2.out; have := Sw2.out; have := HZw2.out; have := HZw3.out; have := HZwc.out; have := Ep6.out; have := Sp6.out; have := Ep7.out; have := Sp7.out; have := Dp6p7.out; have := HZw11.out; have := Epw15.out; have := Sw15.out; have := HZw15.out; have := HZwc.out; have := Ep16.out; have := Sp16.out; have := Ep17.out; have := Sp17.out; have := Dp16p17.out; have := HZw21.out; have := HZw22.out; have := HZwc.out; omega) (fun e => by have := HUr14.out _ e; have := Epw1.out; have := Sw1.out; have := HZw1.out; have := Epw2.out; have := Sw2.out; have := HZw2.out; have := HZw3.out; have := HZwc.out; have := Ep6.out; have := Sp6.out; have := Ep7.out; have := Sp7.out; have := Dp6p7.out; have := HZw11.out; have := Epw15.out; have := Sw15.out; have := HZw15.out; have := HZwc.out; have := Ep16.out; have := Sp16.out; have := Ep17.out; have := Sp17.out; have := Dp16p17.out; have := HZw21.out; have := HZw22.out; have := HZwc.out; omega))).trans xp17_1
        replace hp17 := Nat.lt_of_lt_of_le hp17 hs
        replace HOr8 := Lib.hid (((HOr8.out.later hA).marked hg1 (fun g a c => by have h3 := HUr13.out g a; have h4 := HUr8.out g c; have := Epw1.out; have := Sw1.out; have := HZw1.out; have := Epw2.out; have := Sw2.out; have := HZw2.out; have := HZw3.out; have := HZwc.out; have := Ep6.out; have := Sp6.out; have := Ep7.out; have := Sp7.out; have := Dp6p7.out; have := HZw11.out; have := Epw15.out; have := Sw15.out; have := HZw15.out; have := HZwc.out; have := Ep16.out; have := Sp16.out; have := Ep17.out; have := Sp17.out; have := Dp16p17.out; have := HZw21.out; have := HZw22.out; have := HZwc.out; omega)).marked hg2 (fun g a c => by have h3 := HUr14.out g a; have h4 := HUr8.out g c; have := Epw1.out; have := Sw1.out; have := HZw1.out; have := Epw2.out; have := Sw2.out; have := HZw2.out; have := HZw3.out; have := HZwc.out; have := Ep6.out; have := Sp6.out; have := Ep7.out; have := Sp7.out; have := Dp6p7.out; have := HZw11.out; have := Epw15.out; have := Sw15.out; have := HZw15.out; have := HZwc.out; have := Ep16.out; have := Sp16.out; have := Ep17.out; have := Sp17.out; have := Dp16p17.out; have := HZw21.out; have := HZw22.out; have := HZwc.out; omega))
        replace HOr9 := Lib.hid (((HOr9.out.later hA).marked hg1 (fun g a c => by have h3 := HUr13.out g a; have h4 := HUr9.out g c; have := Epw1.out; have := Sw1.out; have := HZw1.out; have := Epw2.out; have := Sw2.out; have := HZw2.out; have := HZw3.out; have := HZwc.out; have := Ep6.out; have := Sp6.out; have := Ep7.out; have := Sp7.out; have := Dp6p7.out; have := HZw11.out; have := Epw15.out; have := Sw15.out; have := HZw15.out; have := HZwc.out; have := Ep16.out; have := Sp16.out; have := Ep17.out; have := Sp17.out; have := Dp16p17.out; have := HZw21.out; have := HZw22.out; have := HZwc.out; omega)).marked hg2 (fun g a c => by have h3 := HUr14.out g a; have h4 := HUr9.out g c; have := Epw1.out; have := Sw1.out; have := HZw1.out; have := Epw2.out; have := Sw2.out; have := HZw2.out; have := HZw3.out; have := HZwc.out; have := Ep6.out; have := Sp6.out; have := Ep7.out; have := Sp7.out; have := Dp6p7.out; have := HZw11.out; have := Epw15.out; have := Sw15.out; have := HZw15.out; have := HZwc.out; have := Ep16.out; have := Sp16.out; have := Ep17.out; have := Sp17.out; have := Dp16p17.out; have := HZw21.out; have := HZw22.out; have := HZwc.out; omega))
        replace HOr18 := Lib.hid (((HOr18.out.later hA).marked hg1 (fun g a c => by have h3 := HUr13.out g a; have h4 := HUr18.out g c; have := Epw1.out; have := Sw1.out; have := HZw1.out; have := Epw2.out; have := Sw2.out; have := HZw2.out; have := HZw3.out; have := HZwc.out; have := Ep6.out; have := Sp6.out; have := Ep7.out; have := Sp7.out; have := Dp6p7.out; have := HZw11.out; have := Epw15.out; have := Sw15.out; have := HZw15.out; have := HZwc.out; have := Ep16.out; have := Sp16.out; have := Ep17.out; have := Sp17.out; have := Dp16p17.out; have := HZw21.out; have := HZw22.out; have := HZwc.out; omega)).marked hg2 (fun g a c => by have h3 := HUr14.out g a; have h4 := HUr18.out g c; have := Epw1.out; have := Sw1.out; have := HZw1.out; have := Epw2.out; have := Sw2.out; have := HZw2.out; have := HZw3.out; have := HZwc.out; have := Ep6.out; have := Sp6.out; have := Ep7.out; have := Sp7.out; have := Dp6p7.out; have := HZw11.out; have := Epw15.out; have := Sw15.out; have := HZw15.out; have := HZwc.out; have := Ep16.out; have := Sp16.out; have := Ep17.out; have := Sp17.out; have := Dp16p17.out; have := HZw21.out; have := HZw22.out; have := HZwc.out; omega))
        replace HOr19 := Lib.hid (((HOr19.out.later hA).marked hg1 (fun g a c => by have h3 := HUr13.out g a; have h4 := HUr19.out g c; have := Epw1.out; have := Sw1.out; have := HZw1.out; have := Epw2.out; have := Sw2.out; have := HZw2.out; have := HZw3.out; have := HZwc.out; have := Ep6.out; have := Sp6.out; have := Ep7.out; have := Sp7.out; have := Dp6p7.out; have := HZw11.out; have := Epw15.out; have := Sw15.out; have := HZw15.out; have := HZwc.out; have := Ep16.out; have := Sp16.out; have := Ep17.out; have := Sp17.out; have := Dp16p17.out; have := HZw21.out; have := HZw22.out; have := HZwc.out; omega)).marked hg2 (fun g a c => by have h3 := HUr14.out g a; have h4 := HUr19.out g c; have := Epw1.out; have := Sw1.out; have := HZw1.out; have := Epw2.out; have := Sw2.out; have := HZw2.out; have := HZw3.out; have := HZwc.out; have := Ep6.out; have := Sp6.out; have := Ep7.out; have := Sp7.out; have := Dp6p7.out; have := HZw11.out; have := Epw15.out; have := Sw15.out; have := HZw15.out; have := HZwc.out; have := Ep16.out; have := Sp16.out; have := Ep17.out; have := Sp17.out; have := Dp16p17.out; have := HZw21.out; have := HZw22.out; have := HZwc.out; omega))
        replace HA0 := Lib.hid (HA0.out.below hb (HA0'.out))
        replace HM0 := Lib.hid (HM0.out.below hb (HM0'.out))
        replace HB := Lib.hid (HB.out.trans hb)
        replace hz := Nat.le_trans hz hs
        have HZw24 := Lib.hid hs
        replace HOr13 := Lib.hid hoI
        replace HOr14 := Lib.hid hoS
        clear hap1 hb hs hA hg1 hg2 hoI hoS
        go_wp2_with fail
        refine (kit.eqMachineO _ _ (.slice yr18 T1.length qr18) (.slice yr19 T2.length qr19) T1 T2 _ _ (.slice yr8 T1.length qr8) (.slice yr9 T2.length qr9) T1 T2 w24 (by omega) (by omega) HOr18.out HOr19.out (by omega) (by omega) HOr8.out HOr9.out).mono ?_
        rintro e w25 ⟨he, hb⟩
        rw [decide_eq_true ⟨rfl, rfl⟩] at he
        subst he
        replace xpw1_0 := (hb.cell (p := ⟨pw1, 0, none⟩) hpw1).trans xpw1_0
        replace xpw1_1 := (hb.cell (p := ⟨pw1, 1, none⟩) hpw1).trans xpw1_1
        replace hpw1 := Nat.lt_of_lt_of_le hpw1 hb.size
        replace xpw2_0 := (hb.cell (p := ⟨pw2, 0, none⟩) hpw2).trans xpw2_0
        replace xpw2_1 := (hb.cell (p := ⟨pw2, 1, none⟩) hpw2).trans xpw2_1
        replace xpw2_2 := (hb.cell (p := ⟨pw2, 2, none⟩) hpw2).trans xpw2_2
        replace xpw2_3 := (hb.cell (p := ⟨pw2, 3, none⟩) hpw2).trans xpw2_3
        replace xpw2_4 := (hb.cell (p := ⟨pw2, 4, none⟩) hpw2).trans xpw2_4
        replace xpw2_5 := (hb.cell (p := ⟨pw2, 5, none⟩) hpw2).trans xpw2_5
        replace hpw2 := Nat.lt_of_lt_of_le hpw2 hb.size
        replace xp6_0 := (hb.cell (p := ⟨p6, 0, none⟩) hp6).trans xp6_0
        replace xp6_1 := (hb.cell (p := ⟨p6, 1, none⟩) hp6).trans xp6_1
        replace hp6 := Nat.lt_of_lt_of_le hp6 hb.size
        replace xp7_0 := (hb.cell (p := ⟨p7, 0, none⟩) hp7).trans xp7_0
        replace xp7_1 := (hb.cell (p := ⟨p7, 1, none⟩) hp7).trans xp7_1
        replace hp7 := Nat.lt_of_lt_of_le hp7 hb.size
        replace xpw15_0 := (hb.cell (p := ⟨pw15, 0, none⟩) hpw15).trans xpw15_0
        replace xpw15_1 := (hb.cell (p := ⟨pw15, 1, none⟩) hpw15).trans xpw15_1
        replace hpw15 := Nat.lt_of_lt_of_le hpw15 hb.size
        replace xp16_0 := (hb.cell (p := ⟨p16, 0, none⟩) hp16).trans xp16_0
        replace xp16_1 := (hb.cell (p := ⟨p16, 1, none⟩) hp16).trans xp16_1
        replace hp16 := Nat.lt_of_lt_of_le hp16 hb.size
        replace xp17_0 := (hb.cell (p := ⟨p17, 0, none⟩) hp17).trans xp17_0
        replace xp17_1 := (hb.cell (p := ⟨p17, 1, none⟩) hp17).trans xp17_1
        replace hp17 := Nat.lt_of_lt_of_le hp17 hb.size
        replace HB := Lib.hid (HB.out.trans (hb.mono hz))
        replace hz := Nat.le_trans hz hb.size
        have HZw25 := Lib.hid hb.size
        replace HOr8 := Lib.hid (HOr8.out.later hb)
        replace HOr9 := Lib.hid (HOr9.out.later hb)
        replace HOr13 := Lib.hid (HOr13.out.later hb)
        replace HOr14 := Lib.hid (HOr14.out.later hb)
        replace HOr18 := Lib.hid (HOr18.out.later hb)
        replace HOr19 := Lib.hid (HOr19.out.later hb)
        replace HA0 := Lib.hid (HA0.out.later hb)
        replace HM0 := Lib.hid (HM0.out.later hb)
        clear hb
        go_wp2_with fail
        refine (kit.eqResult T3 T4 T3 T4 w25).mono ?_
        rintro e w26 ⟨he, hb⟩
        rw [decide_eq_true rfl, decide_eq_true rfl] at he
        subst he
        replace xpw1_0 := (hb.cell (p := ⟨pw1, 0, none⟩) hpw1).trans xpw1_0
        replace xpw1_1 := (hb.cell (p := ⟨pw1, 1, none⟩) hpw1).trans xpw1_1
        replace hpw1 := Nat.lt_of_lt_of_le hpw1 hb.size
        replace xpw2_0 := (hb.cell (p := ⟨pw2, 0, none⟩) hpw2).trans xpw2_0
        replace xpw2_1 := (hb.cell (p := ⟨pw2, 1, none⟩) hpw2).trans xpw2_1
        replace xpw2_2 := (hb.cell (p := ⟨pw2, 2, none⟩) hpw2).trans xpw2_2
        replace xpw2_3 := (hb.cell (p := ⟨pw2, 3, none⟩) hpw2).trans xpw2_3
        replace xpw2_4 := (hb.cell (p := ⟨pw2, 4, none⟩) hpw2).trans xpw2_4
        replace xpw2_5 := (hb.cell (p := ⟨pw2, 5, none⟩) hpw2).trans xpw2_5
        replace hpw2 := Nat.lt_of_lt_of_le hpw2 hb.size
        replace xp6_0 := (hb.cell (p := ⟨p6, 0, none⟩) hp6).trans xp6_0
        replace xp6_1 := (hb.cell (p := ⟨p6, 1, none⟩) hp6).trans xp6_1
        replace hp6 := Nat.lt_of_lt_of_le hp6 hb.size
        replace xp7_0 := (hb.cell (p := ⟨p7, 0, none⟩) hp7).trans xp7_0
        replace xp7_1 := (hb.cell (p := ⟨p7, 1, none⟩) hp7).trans xp7_1
        replace hp7 := Nat.lt_of_lt_of_le hp7 hb.size
        replace xpw15_0 := (hb.cell (p := ⟨pw15, 0, none⟩) hpw15).trans xpw15_0
        replace xpw15_1 := (hb.cell (p := ⟨pw15, 1, none⟩) hpw15).trans xpw15_1
        replace hpw15 := Nat.lt_of_lt_of_le hpw15 hb.size
        replace xp16_0 := (hb.cell (p := ⟨p16, 0, none⟩) hp16).trans xp16_0
        replace xp16_1 := (hb.cell (p := ⟨p16, 1, none⟩) hp16).trans xp16_1
        replace hp16 := Nat.lt_of_lt_of_le hp16 hb.size
        replace xp17_0 := (hb.cell (p := ⟨p17, 0, none⟩) hp17).trans xp17_0
        replace xp17_1 := (hb.cell (p := ⟨p17, 1, none⟩) hp17).trans xp17_1
        replace hp17 := Nat.lt_of_lt_of_le hp17 hb.size
        replace HB := Lib.hid (HB.out.trans (hb.mono hz))
        replace hz := Nat.le_trans hz hb.size
        have HZw26 := Lib.hid hb.size
        replace HOr8 := Lib.hid (HOr8.out.later hb)
        replace HOr9 := Lib.hid (HOr9.out.later hb)
        replace HOr13 := Lib.hid (HOr13.out.later hb)
        replace HOr14 := Lib.hid (HOr14.out.later hb)
        replace HOr18 := Lib.hid (HOr18.out.later hb)
        replace HOr19 := Lib.hid (HOr19.out.later hb)
        replace HA0 := Lib.hid (HA0.out.later hb)
        replace HM0 := Lib.hid (HM0.out.later hb)
        clear hb
        go_wp2_with fail
        refine (kit.markMachine _ _ (.slice yr18 T1.length qr18) (.slice yr19 T2.length qr19) T1 T2 w26 (by omega) (by omega) HOr18.out HOr19.out 1 rfl).mono ?_
        rintro e w27 ⟨rfl, hoI, hoS, wa, wb, hA, hg1, hg2⟩
        have hap1 := kit.own_apart hoI hoS
        have hb : Below w.heap.size w26 w27 := ((hA.mono hz).grown hg1 (Nat.le_trans hz hA.size) (fun g h => by have := HUr18.out g h; have := Epw1.out; have := Sw1.out; have := HZw1.out; have := Epw2.out; have := Sw2.out; have := HZw2.out; have := HZw3.out; have := HZwc.out; have := Ep6.out; have := Sp6.out; have := Ep7.out; have := Sp7.out; have := Dp6p7.out; have := HZw11.out; have := Epw15.out; have := Sw15.out; have := HZw15.out; have := HZwc.out; have := Ep16.out; have := Sp16.out; have := Ep17.out; have := Sp17.out; have := Dp16p17.out; have := HZw21.out; have := HZw22.out; have := HZwc.out; have := HZw24.out; have := HZw25.out; have := HZw26.out; omega)).grown hg2 (Nat.le_trans hz (Nat.le_trans hA.size hg1.size)) (fun g h => by have := HUr19.out g h; have := Epw1.out; have := Sw1.out; have := HZw1.out; have := Epw2.out; have := Sw2.out; have := HZw2.out; have := HZw3.out; have := HZwc.out; have := Ep6.out; have := Sp6.out; have := Ep7.out; have := Sp7.out; have := Dp6p7.out; have := HZw11.out; have := Epw15.out; have := Sw15.out; have := HZw15.out; have := HZwc.out; have := Ep16.out; have := Sp16.out; have := Ep17.out; have := Sp17.out; have := Dp16p17.out; have := HZw21.out; have := HZw22.out; have := HZwc.out; have := HZw24.out; have := HZw25.out; have := HZw26.out; omega)
        have hs : w26.heap.size ≤ w27.heap.size := hb.size
        replace xpw1_0 := (World.cell?_of_block (a := ⟨pw1, 0, none⟩) (kit.still hA hg1 hg2 (b := pw1) hpw1 (fun e => by have := HUr18.out _ e; have := Epw1.out; have := Sw1.out; have := HZw1.out; have := Epw2.out; have := Sw2.out; have := HZw2.out; have := HZw3.out; have := HZwc.out; have := Ep6.out; have := Sp6.out; have := Ep7.out; have := Sp7.out; have := Dp6p7.out; have := HZw11.out; have := Epw15.out; have := Sw15.out; have := HZw15.out; have := HZwc.out; have := Ep16.out; have := Sp16.out; have := Ep17.out; have := Sp17.out; have := Dp16p17.out; have := HZw21.out; have := HZw22.out; have := HZwc.out; have := HZw24.out; have := HZw25.out; have := HZw26.out; omega) (fun e => by have := HUr19.out _ e; have := Epw1.out; have := Sw1.out; have := HZw1.out; have := Epw2.out; have := Sw2.out; have := HZw2.out; have := HZw3.out; have := HZwc.out; have := Ep6.out; have := Sp6.out; have := Ep7.out; have := Sp7.out; have := Dp6p7.out; have := HZw11.out; have := Epw15.out; have := Sw15.out; have := HZw15.out; have := HZwc.out; have := Ep16.out; have := Sp16.out; have := Ep17.out; have := Sp17.out; have := Dp16p17.out; have := HZw21.out; have := HZw22.out; have := HZwc.out; have := HZw24.out; have := HZw25.out; have := HZw26.out; omega))).trans xpw1_0
        replace xpw1_1 := (World.cell?_of_block (a := ⟨pw1, 1, none⟩) (kit.still hA hg1 hg2 (b := pw1) hpw1 (fun e => by have := HUr18.out _ e; have := Epw1.out; have := Sw1.out; have := HZw1.out; have := Epw2.out; have := Sw2.out; have := HZw2.out; have := HZw3.out; have := HZwc.out; have := Ep6.out; have := Sp6.out; have := Ep7.out; have := Sp7.out; have := Dp6p7.out; have := HZw11.out; have := Epw15.out; have := Sw15.out; have := HZw15.out; have := HZwc.out; have := Ep16.out; have := Sp16.out; have := Ep17.out; have := Sp17.out; have := Dp16p17.out; have := HZw21.out; have := HZw22.out; have := HZwc.out; have := HZw24.out; have := HZw25.out; have := HZw26.out; omega) (fun e => by have := HUr19.out _ e; have := Epw1.out; have := Sw1.out; have := HZw1.out; have := Epw2.out; have := Sw2.out; have := HZw2.out; have := HZw3.out; have := HZwc.out; have := Ep6.out; have := Sp6.out; have := Ep7.out; have := Sp7.out; have := Dp6p7.out; have := HZw11.out; have := Epw15.out; have := Sw15.out; have := HZw15.out; have := HZwc.out; have := Ep16.out; have := Sp16.out; have := Ep17.out; have := Sp17.out; have := Dp16p17.out; have := HZw21.out; have := HZw22.out; have := HZwc.out; have := HZw24.out; have := HZw25.out; have := HZw26.out; omega))).trans xpw1_1
        replace hpw1 := Nat.lt_of_lt_of_le hpw1 hs
        replace xpw2_0 := (World.cell?_of_block (a := ⟨pw2, 0, none⟩) (kit.still hA hg1 hg2 (b := pw2) hpw2 (fun e => by have := HUr18.out _ e; have := Epw1.out; have := Sw1.out; have := HZw1.out; have := Epw2.out; have := Sw2.out; have := HZw2.out; have := HZw3.out; have := HZwc.out; have := Ep6.out; have := Sp6.out; have := Ep7.out; have := Sp7.out; have := Dp6p7.out; have := HZw11.out; have := Epw15.out; have := Sw15.out; have := HZw15.out; have := HZwc.out; have := Ep16.out; have := Sp16.out; have := Ep17.out; have := Sp17.out; have := Dp16p17.out; have := HZw21.out; have := HZw22.out; have := HZwc.out; have := HZw24.out; have := HZw25.out; have := HZw26.out; omega) (fun e => by have := HUr19.out _ e; have := Epw1.out; have := Sw1.out; have := HZw1.out; have := Epw2.out; have := Sw2.out; have := HZw2.out; have := HZw3.out; have := HZwc.out; have := Ep6.out; have := Sp6.out; have := Ep7.out; have := Sp7.out; have := Dp6p7.out; have := HZw11.out; have := Epw15.out; have := Sw15.out; have := HZw15.out; have := HZwc.out; have := Ep16.out; have := Sp16.out; have := Ep17.out; have := Sp17.out; have := Dp16p17.out; have := HZw21.out; have := HZw22.out; have := HZwc.out; have := HZw24.out; have := HZw25.out; have := HZw26.out; omega))).trans xpw2_0
        replace xpw2_1 := (World.cell?_of_block (a := ⟨pw2, 1, none⟩) (kit.still hA hg1 hg2 (b := pw2) hpw2 (fun e => by have := HUr18.out _ e; have := Epw1.out; have := Sw1.out; have := HZw1.out; have := Epw2.out; have := Sw2.out; have := HZw2.out; have := HZw3.out; have := HZwc.out; have := Ep6.out; have := Sp6.out; have := Ep7.out; have := Sp7.out; have := Dp6p7.out; have := HZw11.out; have := Epw15.out; have := Sw15.out; have := HZw15.out; have := HZwc.out; have := Ep16.out; have := Sp16.out; have := Ep17.out; have := Sp17.out; have := Dp16p17.out; have := HZw21.out; have := HZw22.out; have := HZwc.out; have := HZw24.out; have := HZw25.out; have := HZw26.out; omega) (fun e => by have := HUr19.out _ e; have := Epw1.out; have := Sw1.out; have := HZw1.out; have := Epw2.out; have := Sw2.out; have := HZw2.out; have := HZw3.out; have := HZwc.out; have := Ep6.out; have := Sp6.out; have := Ep7.out; have := Sp7.out; have := Dp6p7.out; have := HZw11.out; have := Epw15.out; have := Sw15.out; have := HZw15.out; have := HZwc.out; have := Ep16.out; have := Sp16.out; have := Ep17.out; have := Sp17.out; have := Dp16p17.out; have := HZw21.out; have := HZw22.out; have := HZwc.out; have := HZw24.out; have := HZw25.out; have := HZw26.out; omega))).trans xpw2_1
        replace xpw2_2 := (World.cell?_of_block (a := ⟨pw2, 2, none⟩) (kit.still hA hg1 hg2 (b := pw2) hpw2 (fun e => by have := HUr18.out _ e; have := Epw1.out; have := Sw1.out; have := HZw1.out; have := Epw2.out; have := Sw2.out; have := HZw2.out; have := HZw3.out; have := HZwc.out; have := Ep6.out; have := Sp6.out; have := Ep7.out; have := Sp7.out; have := Dp6p7.out; have := HZw11.out; have := Epw15.out; have := Sw15.out; have := HZw15.out; have := HZwc.out; have := Ep16.out; have := Sp16.out; have := Ep17.out; have := Sp17.out; have := Dp16p17.out; have := HZw21.out; have := HZw22.out; have := HZwc.out; have := HZw24.out; have := HZw25.out; have := HZw26.out; omega) (fun e => by have := HUr19.out _ e; have := Epw1.out; have := Sw1.out; have := HZw1.out; have := Epw2.out; have := Sw2.out; have := HZw2.out; have := HZw3.out; have := HZwc.out; have := Ep6.out; have := Sp6.out; have := Ep7.out; have := Sp7.out; have := Dp6p7.out; have := HZw11.out; have := Epw15.out; have := Sw15.out; have := HZw15.out; have := HZwc.out; have := Ep16.out; have := Sp16.out; have := Ep17.out; have := Sp17.out; have := Dp16p17.out; have := HZw21.out; have := HZw22.out; have := HZwc.out; have := HZw24.out; have := HZw25.out; have := HZw26.out; omega))).trans xpw2_2
        replace xpw2_3 := (World.cell?_of_block (a := ⟨pw2, 3, none⟩) (kit.still hA hg1 hg2 (b := pw2) hpw2 (fun e => by have := HUr18.out _ e; have := Epw1.out; have := Sw1.out; have := HZw1.out; have := Epw2.out; have := Sw2.out; have := HZw2.out; have := HZw3.out; have := HZwc.out; have := Ep6.out; have := Sp6.out; have := Ep7.out; have := Sp7.out; have := Dp6p7.out; have := HZw11.out; have := Epw15.out; have := Sw15.out; have := HZw15.out; have := HZwc.out; have := Ep16.out; have := Sp16.out; have := Ep17.out; have := Sp17.out; have := Dp16p17.out; have := HZw21.out; have := HZw22.out; have := HZwc.out; have := HZw24.out; have := HZw25.out; have := HZw26.out; omega) (fun e => by have := HUr19.out _ e; have := Epw1.out; have := Sw1.out; have := HZw1.out; have := Epw2.out; have := Sw2.out; have := HZw2.out; have := HZw3.out; have := HZwc.out; have := Ep6.out; have := Sp6.out; have := Ep7.out; have := Sp7.out; have := Dp6p7.out; have := HZw11.out; have := Epw15.out; have := Sw15.out; have := HZw15.out; have := HZwc.out; have := Ep16.out; have := Sp16.out; have := Ep17.out; have := Sp17.out; have := Dp16p17.out; have := HZw21.out; have := HZw22.out; have := HZwc.out; have := HZw24.out; have := HZw25.out; have := HZw26.out; omega))).trans xpw2_3
        replace xpw2_4 := (World.cell?_of_block (a := ⟨pw2, 4, none⟩) (kit.still hA hg1 hg2 (b := pw2) hpw2 (fun e => by have := HUr18.out _ e; have := Epw1.out; have := Sw1.out; have := HZw1.out; have := Epw2.out; have := Sw2.out; have := HZw2.out; have := HZw3.out; have := HZwc.out; have := Ep6.out; have := Sp6.out; have := Ep7.out; have := Sp7.out; have := Dp6p7.out; have := HZw11.out; have := Epw15.out; have := Sw15.out; have := HZw15.out; have := HZwc.out; have := Ep16.out; have := Sp16.out; have := Ep17.out; have := Sp17.out; have := Dp16p17.out; have := HZw21.out; have := HZw22.out; have := HZwc.out; have := HZw24.out; have := HZw25.out; have := HZw26.out; omega) (fun e => by have := HUr19.out _ e; have := Epw1.out; have := Sw1.out; have := HZw1.out; have := Epw2.out; have := Sw2.out; have := HZw2.out; have := HZw3.out; have := HZwc.out; have := Ep6.out; have := Sp6.out; have := Ep7.out; have := Sp7.out; have := Dp6p7.out; have := HZw11.out; have := Epw15.out; have := Sw15.out; have := HZw15.out; have := HZwc.out; have := Ep16.out; have := Sp16.out; have := Ep17.out; have := Sp17.out; have := Dp16p17.out; have := HZw21.out; have := HZw22.out; have := HZwc.out; have := HZw24.out; have := HZw25.out; have := HZw26.out; omega))).trans xpw2_4
        replace xpw2_5 := (World.cell?_of_block (a := ⟨pw2, 5, none⟩) (kit.still hA hg1 hg2 (b := pw2) hpw2 (fun e => by have := HUr18.out _ e; have := Epw1.out; have := Sw1.out; have := HZw1.out; have := Epw2.out; have := Sw2.out; have := HZw2.out; have := HZw3.out; have := HZwc.out; have := Ep6.out; have := Sp6.out; have := Ep7.out; have := Sp7.out; have := Dp6p7.out; have := HZw11.out; have := Epw15.out; have := Sw15.out; have := HZw15.out; have := HZwc.out; have := Ep16.out; have := Sp16.out; have := Ep17.out; have := Sp17.out; have := Dp16p17.out; have := HZw21.out; have := HZw22.out; have := HZwc.out; have := HZw24.out; have := HZw25.out; have := HZw26.out; omega) (fun e => by have := HUr19.out _ e; have := Epw1.out; have := Sw1.out; have := HZw1.out; have := Epw2.out; have := Sw2.out; have := HZw2.out; have := HZw3.out; have := HZwc.out; have := Ep6.out; have := Sp6.out; have := Ep7.out; have := Sp7.out; have := Dp6p7.out; have := HZw11.out; have := Epw15.out; have := Sw15.out; have := HZw15.out; have := HZwc.out; have := Ep16.out; have := Sp16.out; have := Ep17.out; have := Sp17.out; have := Dp16p17.out; have := HZw21.out; have := HZw22.out; have := HZwc.out; have := HZw24.out; have := HZw25.out; have := HZw26.out; omega))).trans xpw2_5
        replace hpw2 := Nat.lt_of_lt_of_le hpw2 hs
        replace xp6_0 := (World.cell?_of_block (a := ⟨p6, 0, none⟩) (kit.still hA hg1 hg2 (b := p6) hp6 (fun e => by have := HUr18.out _ e; have := Epw1.out; have := Sw1.out; have := HZw1.out; have := Epw2.out; have := Sw2.out; have := HZw2.out; have := HZw3.out; have := HZwc.out; have := Ep6.out; have := Sp6.out; have := Ep7.out; have := Sp7.out; have := Dp6p7.out; have := HZw11.out; have := Epw15.out; have := Sw15.out; have := HZw15.out; have := HZwc.out; have := Ep16.out; have := Sp16.out; have := Ep17.out; have := Sp17.out; have := Dp16p17.out; have := HZw21.out; have := HZw22.out; have := HZwc.out; have := HZw24.out; have := HZw25.out; have := HZw26.out; omega) (fun e => by have := HUr19.out _ e; have := Epw1.out; have := Sw1.out; have := HZw1.out; have := Epw2.out; have := Sw2.out; have := HZw2.out; have := HZw3.out; have := HZwc.out; have := Ep6.out; have := Sp6.out; have := Ep7.out; have := Sp7.out; have := Dp6p7.out; have := HZw11.out; have := Epw15.out; have := Sw15.out; have := HZw15.out; have := HZwc.out; have := Ep16.out; have := Sp16.out; have := Ep17.out; have := Sp17.out; have := Dp16p17.out; have := HZw21.out; have := HZw22.out; have := HZwc.out; have := HZw24.out; have := HZw25.out; have := HZw26.out; omega))).trans xp6_0
        replace xp6_1 := (World.cell?_of_block (a := ⟨p6, 1, none⟩) (kit.still hA hg1 hg2 (b := p6) hp6 (fun e => by have := HUr18.out _ e; have := Epw1.out; have := Sw1.out; have := HZw1.out; have := Epw2.out; have := Sw2.out; have := HZw2.out; have := HZw3.out; have := HZwc.out; have := Ep6.out; have := Sp6.out; have := Ep7.out; have := Sp7.out; have := Dp6p7.out; have := HZw11.out; have := Epw15.out; have := Sw15.out; have := HZw15.out; have := HZwc.out; have := Ep16.out; have := Sp16.out; have := Ep17.out; have := Sp17.out; have := Dp16p17.out; have := HZw21.out; have := HZw22.out; have := HZwc.out; have := HZw24.out; have := HZw25.out; have := HZw26.out; omega) (fun e => by have := HUr19.out _ e; have := Epw1.out; have := Sw1.out; have := HZw1.out; have := Epw2.out; have := Sw2.out; have := HZw2.out; have := HZw3.out; have := HZwc.out; have := Ep6.out; have := Sp6.out; have := Ep7.out; have := Sp7.out; have := Dp6p7.out; have := HZw11.out; have := Epw15.out; have := Sw15.out; have := HZw15.out; have := HZwc.out; have := Ep16.out; have := Sp16.out; have := Ep17.out; have := Sp17.out; have := Dp16p17.out; have := HZw21.out; have := HZw22.out; have := HZwc.out; have := HZw24.out; have := HZw25.out; have := HZw26.out; omega))).trans xp6_1
        replace hp6 := Nat.lt_of_lt_of_le hp6 hs
        replace xp7_0 := (World.cell?_of_block (a := ⟨p7, 0, none⟩) (kit.still hA hg1 hg2 (b := p7) hp7 (fun e => by have := HUr18.out _ e; have := Epw1.out; have := Sw1.out; have := HZw1.out; have := Epw2.out; have := Sw2.out; have := HZw2.out; have := HZw3.out; have := HZwc.out; have := Ep6.out; have := Sp6.out; have := Ep7.out; have := Sp7.out; have := Dp6p7.out; have := HZw11.out; have := Epw15.out; have := Sw15.out; have := HZw15.out; have := HZwc.out; have := Ep16.out; have := Sp16.out; have := Ep17.out; have := Sp17.out; have := Dp16p17.out; have := HZw21.out; have := HZw22.out; have := HZwc.out; have := HZw24.out; have := HZw25.out; have := HZw26.out; omega) (fun e => by have := HUr19.out _ e; have := Epw1.out; have := Sw1.out; have := HZw1.out; have := Epw2.out; have := Sw2.out; have := HZw2.out; have := HZw3.out; have := HZwc.out; have := Ep6.out; have := Sp6.out; have := Ep7.out; have := Sp7.out; have := Dp6p7.out; have := HZw11.out; have := Epw15.out; have := Sw15.out; have := HZw15.out; have := HZwc.out; have := Ep16.out; have := Sp16.out; have := Ep17.out; have := Sp17.out; have := Dp16p17.out; have := HZw21.out; have := HZw22.out; have := HZwc.out; have := HZw24.out; have := HZw25.out; have := HZw26.out; omega))).trans xp7_0
        replace xp7_1 := (World.cell?_of_block (a := ⟨p7, 1, none⟩) (kit.still hA hg1 hg2 (b := p7) hp7 (fun e => by have := HUr18.out _ e; have := Epw1.out; have := Sw1.out; have := HZw1.out; have := Epw2.out; have := Sw2.out; have := HZw2.out; have := HZw3.out; have := HZwc.out; have := Ep6.out; have := Sp6.out; have := Ep7.out; have := Sp7.out; have := Dp6p7.out; have := HZw11.out; have := Epw15.out; have := Sw15.out; have := HZw15.out; have := HZwc.out; have := Ep16.out; have := Sp16.out; have := Ep17.out; have := Sp17.out; have := Dp16p17.out; have := HZw21.out; have := HZw22.out; have := HZwc.out; have := HZw24.out; have := HZw25.out; have := HZw26.out; omega) (fun e => by have := HUr19.out _ e; have := Epw1.out; have := Sw1.out; have := HZw1.out; have := Epw2.out; have := Sw2.out; have := HZw2.out; have := HZw3.out; have := HZwc.out; have := Ep6.out; have := Sp6.out; have := Ep7.out; have := Sp7.out; have := Dp6p7.out; have := HZw11.out; have := Epw15.out; have := Sw15.out; have := HZw15.out; have := HZwc.out; have := Ep16.out; have := Sp16.out; have := Ep17.out; have := Sp17.out; have := Dp16p17.out; have := HZw21.out; have := HZw22.out; have := HZwc.out; have := HZw24.out; have := HZw25.out; have := HZw26.out; omega))).trans xp7_1
        replace hp7 := Nat.lt_of_lt_of_le hp7 hs
        replace xpw15_0 := (World.cell?_of_block (a := ⟨pw15, 0, none⟩) (kit.still hA hg1 hg2 (b := pw15) hpw15 (fun e => by have := HUr18.out _ e; have := Epw1.out; have := Sw1.out; have := HZw1.out; have := Epw2.out; have := Sw2.out; have := HZw2.out; have := HZw3.out; have := HZwc.out; have := Ep6.out; have := Sp6.out; have := Ep7.out; have := Sp7.out; have := Dp6p7.out; have := HZw11.out; have := Epw15.out; have := Sw15.out; have := HZw15.out; have := HZwc.out; have := Ep16.out; have := Sp16.out; have := Ep17.out; have := Sp17.out; have := Dp16p17.out; have := HZw21.out; have := HZw22.out; have := HZwc.out; have := HZw24.out; have := HZw25.out; have := HZw26.out; omega) (fun e => by have := HUr19.out _ e; have := Epw1.out; have := Sw1.out; have := HZw1.out; have := Epw2.out; have := Sw2.out; have := HZw2.out; have := HZw3.out; have := HZwc.out; have := Ep6.out; have := Sp6.out; have := Ep7.out; have := Sp7.out; have := Dp6p7.out; have := HZw11.out; have := Epw15.out; have := Sw15.out; have := HZw15.out; have := HZwc.out; have := Ep16.out; have := Sp16.out; have := Ep17.out; have := Sp17.out; have := Dp16p17.out; have := HZw21.out; have := HZw22.out; have := HZwc.out; have := HZw24.out; have := HZw25.out; have := HZw26.out; omega))).trans xpw15_0
        replace xpw15_1 := (World.cell?_of_block (a := ⟨pw15, 1, none⟩) (kit.still hA hg1 hg2 (b := pw15) hpw15 (fun e => by have := HUr18.out _ e; have := Epw1.out; have := Sw1.out; have := HZw1.out; have := Epw2.out; have := Sw2.out; have := HZw2.out; have := HZw3.out; have := HZwc.out; have := Ep6.out; have := Sp6.out; have := Ep7.out; have := Sp7.out; have := Dp6p7.out; have := HZw11.out; have := Epw15.out; have := Sw15.out; have := HZw15.out; have := HZwc.out; have := Ep16.out; have := Sp16.out; have := Ep17.out; have := Sp17.out; have := Dp16p17.out; have := HZw21.out; have := HZw22.out; have := HZwc.out; have := HZw24.out; have := HZw25.out; have := HZw26.out; omega) (fun e => by have := HUr19.out _ e; have := Epw1.out; have := Sw1.out; have := HZw1.out; have := Epw2.out; have := Sw2.out; have := HZw2.out; have := HZw3.out; have := HZwc.out; have := Ep6.out; have := Sp6.out; have := Ep7.out; have := Sp7.out; have := Dp6p7.out; have := HZw11.out; have := Epw15.out; have := Sw15.out; have := HZw15.out; have := HZwc.out; have := Ep16.out; have := Sp16.out; have := Ep17.out; have := Sp17.out; have := Dp16p17.out; have := HZw21.out; have := HZw22.out; have := HZwc.out; have := HZw24.out; have := HZw25.out; have := HZw26.out; omega))).trans xpw15_1
        replace hpw15 := Nat.lt_of_lt_of_le hpw15 hs
        replace xp16_0 := (World.cell?_of_block (a := ⟨p16, 0, none⟩) (kit.still hA hg1 hg2 (b := p16) hp16 (fun e => by have := HUr18.out _ e; have := Epw1.out; have := Sw1.out; have := HZw1.out; have := Epw2.out; have := Sw2.out; have := HZw2.out; have := HZw3.out; have := HZwc.out; have := Ep6.out; have := Sp6.out; have := Ep7.out; have := Sp7.out; have := Dp6p7.out; have := HZw11.out; have := Epw15.out; have := Sw15.out; have := HZw15.out; have := HZwc.out; have := Ep16.out; have := Sp16.out; have := Ep17.out; have := Sp17.out; have := Dp16p17.out; have := HZw21.out; have := HZw22.out; have := HZwc.out; have := HZw24.out; have := HZw25.out; have := HZw26.out; omega) (fun e => by have := HUr19.out _ e; have := Epw1.out; have := Sw1.out; have := HZw1.out; have := Epw2.out; have := Sw2.out; have := HZw2.out; have := HZw3.out; have := HZwc.out; have := Ep6.out; have := Sp6.out; have := Ep7.out; have := Sp7.out; have := Dp6p7.out; have := HZw11.out; have := Epw15.out; have := Sw15.out; have := HZw15.out; have := HZwc.out; have := Ep16.out; have := Sp16.out; have := Ep17.out; have := Sp17.out; have := Dp16p17.out; have := HZw21.out; have := HZw22.out; have := HZwc.out; have := HZw24.out; have := HZw25.out; have := HZw26.out; omega))).trans xp16_0
        replace xp16_1 := (World.cell?_of_block (a := ⟨p16, 1, none⟩) (kit.still hA hg1 hg2 (b := p16) hp16 (fun e => by have := HUr18.out _ e; have := Epw1.out; have := Sw1.out; have := HZw1.out; have := Epw2.out; have := Sw2.out; have := HZw2.out; have := HZw3.out; have := HZwc.out; have := Ep6.out; have := Sp6.out; have := Ep7.out; have := Sp7.out; have := Dp6p7.out; have := HZw11.out; have := Epw15.out; have := Sw15.out; have := HZw15.out; have := HZwc.out; have := Ep16.out; have := Sp16.out; have := Ep17.out; have := Sp17.out; have := Dp16p17.out; have := HZw21.out; have := HZw22.out; have := HZwc.out; have := HZw24.out; have := HZw25.out; have := HZw26.out; omega) (fun e => by have := HUr19.out _ e; have := Epw1.out; have := Sw1.out; have := HZw1.out; have := Epw2.out; have := Sw2.out; have := HZw2.out; have := HZw3.out; have := HZwc.out; have := Ep6.out; have := Sp6.out; have := Ep7.out; have := Sp7.out; have := Dp6p7.out; have := HZw11.out; have := Epw15.out; have := Sw15.out; have := HZw15.out; have := HZwc.out; have := Ep16.out; have := Sp16.out; have := Ep17.out; have := Sp17.out; have := Dp16p17.out; have := HZw21.out; have := HZw22.out; have := HZwc.out; have := HZw24.out; have := HZw25.out; have := HZw26.out; omega))).trans xp16_1
        replace hp16 := Nat.lt_of_lt_of_le hp16 hs
        replace xp17_0 := (World.cell?_of_block (a := ⟨p17, 0, none⟩) (kit.still hA hg1 hg2 (b := p17) hp17 (fun e => by have := HUr18.out _ e; have := Epw1.out; have := Sw1.out; have := HZw1.out; have := Epw2.out; have := Sw2.out; have := HZw2.out; have := HZw3.out; have := HZwc.out; have := Ep6.out; have := Sp6.out; have := Ep7.out; have := Sp7.out; have := Dp6p7.out; have := HZw11.out; have := Epw15.out; have := Sw15.out; have := HZw15.out; have := HZwc.out; have := Ep16.out; have := Sp16.out; have := Ep17.out; have := Sp17.out; have := Dp16p17.out; have := HZw21.out; have := HZw22.out; have := HZwc.out; have := HZw24.out; have := HZw25.out; have := HZw26.out; omega) (fun e => by have := HUr19.out _ e; have := Epw1.out; have := Sw1.out; have := HZw1.out; have := Epw2.out; have := Sw2.out; have := HZw2.out; have := HZw3.out; have := HZwc.out; have := Ep6.out; have := Sp6.out; have := Ep7.out; have := Sp7.out; have := Dp6p7.out; have := HZw11.out; have := Epw15.out; have := Sw15.out; have := HZw15.out; have := HZwc.out; have := Ep16.out; have := Sp16.out; have := Ep17.out; have := Sp17.out; have := Dp16p17.out; have := HZw21.out; have := HZw22.out; have := HZwc.out; have := HZw24.out; have := HZw25.out; have := HZw26.out; omega))).trans xp17_0
        replace xp17_1 := (World.cell?_of_block (a := ⟨p17, 1, none⟩) (kit.still hA hg1 hg2 (b := p17) hp17 (fun e => by have := HUr18.out _ e; have := Epw1.out; have := Sw1.out; have := HZw1.out; have := Epw2.out; have := Sw2.out; have := HZw2.out; have := HZw3.out; have := HZwc.out; have := Ep6.out; have := Sp6.out; have := Ep7.out; have := Sp7.out; have := Dp6p7.out; have := HZw11.out; have := Epw15.out; have := Sw15.out; have := HZw15.out; have := HZwc.out; have := Ep16.out; have := Sp16.out; have := Ep17.out; have := Sp17.out; have := Dp16p17.out; have := HZw21.out; have := HZw22.out; have := HZwc.out; have := HZw24.out; have := HZw25.out; have := HZw26.out; omega) (fun e => by have := HUr19.out _ e; have := Epw1.out; have := Sw1.out; have := HZw1.out; have := Epw2.out; have := Sw2.out; have := HZw2.out; have := HZw3.out; have := HZwc.out; have := Ep6.out; have := Sp6.out; have := Ep7.out; have := Sp7.out; have := Dp6p7.out; have := HZw11.out; have := Epw15.out; have := Sw15.out; have := HZw15.out; have := HZwc.out; have := Ep16.out; have := Sp16.out; have := Ep17.out; have := Sp17.out; have := Dp16p17.out; have := HZw21.out; have := HZw22.out; have := HZwc.out; have := HZw24.out; have := HZw25.out; have := HZw26.out; omega))).trans xp17_1
        replace hp17 := Nat.lt_of_lt_of_le hp17 hs
        replace HOr8 := Lib.hid (((HOr8.out.later hA).marked hg1 (fun g a c => by have h3 := HUr18.out g a; have h4 := HUr8.out g c; have := Epw1.out; have := Sw1.out; have := HZw1.out; have := Epw2.out; have := Sw2.out; have := HZw2.out; have := HZw3.out; have := HZwc.out; have := Ep6.out; have := Sp6.out; have := Ep7.out; have := Sp7.out; have := Dp6p7.out; have := HZw11.out; have := Epw15.out; have := Sw15.out; have := HZw15.out; have := HZwc.out; have := Ep16.out; have := Sp16.out; have := Ep17.out; have := Sp17.out; have := Dp16p17.out; have := HZw21.out; have := HZw22.out; have := HZwc.out; have := HZw24.out; have := HZw25.out; have := HZw26.out; omega)).marked hg2 (fun g a c => by have h3 := HUr19.out g a; have h4 := HUr8.out g c; have := Epw1.out; have := Sw1.out; have := HZw1.out; have := Epw2.out; have := Sw2.out; have := HZw2.out; have := HZw3.out; have := HZwc.out; have := Ep6.out; have := Sp6.out; have := Ep7.out; have := Sp7.out; have := Dp6p7.out; have := HZw11.out; have := Epw15.out; have := Sw15.out; have := HZw15.out; have := HZwc.out; have := Ep16.out; have := Sp16.out; have := Ep17.out; have := Sp17.out; have := Dp16p17.out; have := HZw21.out; have := HZw22.out; have := HZwc.out; have := HZw24.out; have := HZw25.out; have := HZw26.out; omega))
        replace HOr9 := Lib.hid (((HOr9.out.later hA).marked hg1 (fun g a c => by have h3 := HUr18.out g a; have h4 := HUr9.out g c; have := Epw1.out; have := Sw1.out; have := HZw1.out; have := Epw2.out; have := Sw2.out; have := HZw2.out; have := HZw3.out; have := HZwc.out; have := Ep6.out; have := Sp6.out; have := Ep7.out; have := Sp7.out; have := Dp6p7.out; have := HZw11.out; have := Epw15.out; have := Sw15.out; have := HZw15.out; have := HZwc.out; have := Ep16.out; have := Sp16.out; have := Ep17.out; have := Sp17.out; have := Dp16p17.out; have := HZw21.out; have := HZw22.out; have := HZwc.out; have := HZw24.out; have := HZw25.out; have := HZw26.out; omega)).marked hg2 (fun g a c => by have h3 := HUr19.out g a; have h4 := HUr9.out g c; have := Epw1.out; have := Sw1.out; have := HZw1.out; have := Epw2.out; have := Sw2.out; have := HZw2.out; have := HZw3.out; have := HZwc.out; have := Ep6.out; have := Sp6.out; have := Ep7.out; have := Sp7.out; have := Dp6p7.out; have := HZw11.out; have := Epw15.out; have := Sw15.out; have := HZw15.out; have := HZwc.out; have := Ep16.out; have := Sp16.out; have := Ep17.out; have := Sp17.out; have := Dp16p17.out; have := HZw21.out; have := HZw22.out; have := HZwc.out; have := HZw24.out; have := HZw25.out; have := HZw26.out; omega))
        replace HOr13 := Lib.hid (((HOr13.out.later hA).marked hg1 (fun g a c => by have h3 := HUr18.out g a; have h4 := HUr13.out g c; have := Epw1.out; have := Sw1.out; have := HZw1.out; have := Epw2.out; have := Sw2.out; have := HZw2.out; have := HZw3.out; have := HZwc.out; have := Ep6.out; have := Sp6.out; have := Ep7.out; have := Sp7.out; have := Dp6p7.out; have := HZw11.out; have := Epw15.out; have := Sw15.out; have := HZw15.out; have := HZwc.out; have := Ep16.out; have := Sp16.out; have := Ep17.out; have := Sp17.out; have := Dp16p17.out; have := HZw21.out; have := HZw22.out; have := HZwc.out; have := HZw24.out; have := HZw25.out; have := HZw26.out; omega)).marked hg2 (fun g a c => by have h3 := HUr19.out g a; have h4 := HUr13.out g c; have := Epw1.out; have := Sw1.out; have := HZw1.out; have := Epw2.out; have := Sw2.out; have := HZw2.out; have := HZw3.out; have := HZwc.out; have := Ep6.out; have := Sp6.out; have := Ep7.out; have := Sp7.out; have := Dp6p7.out; have := HZw11.out; have := Epw15.out; have := Sw15.out; have := HZw15.out; have := HZwc.out; have := Ep16.out; have := Sp16.out; have := Ep17.out; have := Sp17.out; have := Dp16p17.out; have := HZw21.out; have := HZw22.out; have := HZwc.out; have := HZw24.out; have := HZw25.out; have := HZw26.out; omega))
        replace HOr14 := Lib.hid (((HOr14.out.later hA).marked hg1 (fun g a c => by have h3 := HUr18.out g a; have h4 := HUr14.out g c; have := Epw1.out; have := Sw1.out; have := HZw1.out; have := Epw2.out; have := Sw2.out; have := HZw2.out; have := HZw3.out; have := HZwc.out; have := Ep6.out; have := Sp6.out; have := Ep7.out; have := Sp7.out; have := Dp6p7.out; have := HZw11.out; have := Epw15.out; have := Sw15.out; have := HZw15.out; have := HZwc.out; have := Ep16.out; have := Sp16.out; have := Ep17.out; have := Sp17.out; have := Dp16p17.out; have := HZw21.out; have := HZw22.out; have := HZwc.out; have := HZw24.out; have := HZw25.out; have := HZw26.out; omega)).marked hg2 (fun g a c => by have h3 := HUr19.out g a; have h4 := HUr14.out g c; have := Epw1.out; have := Sw1.out; have := HZw1.out; have := Epw2.out; have := Sw2.out; have := HZw2.out; have := HZw3.out; have := HZwc.out; have := Ep6.out; have := Sp6.out; have := Ep7.out; have := Sp7.out; have := Dp6p7.out; have := HZw11.out; have := Epw15.out; have := Sw15.out; have := HZw15.out; have := HZwc.out; have := Ep16.out; have := Sp16.out; have := Ep17.out; have := Sp17.out; have := Dp16p17.out; have := HZw21.out; have := HZw22.out; have := HZwc.out; have := HZw24.out; have := HZw25.out; have := HZw26.out; omega))
        replace HA0 := Lib.hid (HA0.out.below hb (HA0'.out))
        replace HM0 := Lib.hid (HM0.out.below hb (HM0'.out))
        replace HB := Lib.hid (HB.out.trans hb)
        replace hz := Nat.le_trans hz hs
        have HZw27 := Lib.hid hs
        replace HOr18 := Lib.hid hoI
        replace HOr19 := Lib.hid hoS
        clear hap1 hb hs hA hg1 hg2 hoI hoS
        go_wp2_with fail
        refine (kit.heldMachine _ _ (.slice yr18 T1.length qr18) (.slice yr19 T2.length qr19) (T1.length) (T2.length) w27 (by omega) (by omega) HOr18.out HOr19.out 1 rfl).mono ?_
        rintro e w28 ⟨rfl, hb⟩
        replace xpw1_0 := (hb.cell (p := ⟨pw1, 0, none⟩) hpw1).trans xpw1_0
        replace xpw1_1 := (hb.cell (p := ⟨pw1, 1, none⟩) hpw1).trans xpw1_1
        replace hpw1 := Nat.lt_of_lt_of_le hpw1 hb.size
        replace xpw2_0 := (hb.cell (p := ⟨pw2, 0, none⟩) hpw2).trans xpw2_0
        replace xpw2_1 := (hb.cell (p := ⟨pw2, 1, none⟩) hpw2).trans xpw2_1
        replace xpw2_2 := (hb.cell (p := ⟨pw2, 2, none⟩) hpw2).trans xpw2_2
        replace xpw2_3 := (hb.cell (p := ⟨pw2, 3, none⟩) hpw2).trans xpw2_3
        replace xpw2_4 := (hb.cell (p := ⟨pw2, 4, none⟩) hpw2).trans xpw2_4
        replace xpw2_5 := (hb.cell (p := ⟨pw2, 5, none⟩) hpw2).trans xpw2_5
        replace hpw2 := Nat.lt_of_lt_of_le hpw2 hb.size
        replace xp6_0 := (hb.cell (p := ⟨p6, 0, none⟩) hp6).trans xp6_0
        replace xp6_1 := (hb.cell (p := ⟨p6, 1, none⟩) hp6).trans xp6_1
        replace hp6 := Nat.lt_of_lt_of_le hp6 hb.size
        replace xp7_0 := (hb.cell (p := ⟨p7, 0, none⟩) hp7).trans xp7_0
        replace xp7_1 := (hb.cell (p := ⟨p7, 1, none⟩) hp7).trans xp7_1
        replace hp7 := Nat.lt_of_lt_of_le hp7 hb.size
        replace xpw15_0 := (hb.cell (p := ⟨pw15, 0, none⟩) hpw15).trans xpw15_0
        replace xpw15_1 := (hb.cell (p := ⟨pw15, 1, none⟩) hpw15).trans xpw15_1
        replace hpw15 := Nat.lt_of_lt_of_le hpw15 hb.size
        replace xp16_0 := (hb.cell (p := ⟨p16, 0, none⟩) hp16).trans xp16_0
        replace xp16_1 := (hb.cell (p := ⟨p16, 1, none⟩) hp16).trans xp16_1
        replace hp16 := Nat.lt_of_lt_of_le hp16 hb.size
        replace xp17_0 := (hb.cell (p := ⟨p17, 0, none⟩) hp17).trans xp17_0
        replace xp17_1 := (hb.cell (p := ⟨p17, 1, none⟩) hp17).trans xp17_1
        replace hp17 := Nat.lt_of_lt_of_le hp17 hb.size
        replace HB := Lib.hid (HB.out.trans (hb.mono hz))
        replace hz := Nat.le_trans hz hb.size
        have HZw28 := Lib.hid hb.size
        replace HOr8 := Lib.hid (HOr8.out.later hb)
        replace HOr9 := Lib.hid (HOr9.out.later hb)
        replace HOr13 := Lib.hid (HOr13.out.later hb)
        replace HOr14 := Lib.hid (HOr14.out.later hb)
        replace HOr18 := Lib.hid (HOr18.out.later hb)
        replace HOr19 := Lib.hid (HOr19.out.later hb)
        replace HA0 := Lib.hid (HA0.out.later hb)
        replace HM0 := Lib.hid (HM0.out.later hb)
        clear hb
        go_wp2_with fail
        go_upto_region 24 with (fail)
        go_cut [16, 17, 18] (fun b0 b1 b2 wx => ∃ (p0 : Nat) (p1 : Nat) (xI xS : Value), b0 = .pointer (some ⟨p0, 0, none⟩) ∧ b1 = .pointer (some ⟨p1, 0, none⟩) ∧ b2 = .bool T5 ∧ kit.Box2 wx p0 27 (xI) (xS) ∧ kit.Box2 wx p1 33 (.bool T3) (.int .i64 T4) ∧ kit.OwnI (w28.heap.size) wx xI T1 ∧ kit.OwnS (w28.heap.size) wx xS T2 ∧ w28.heap.size ≤ p0 ∧ w28.heap.size ≤ p1 ∧ Below (w28.heap.size) w28 wx)
        case first =>
          refine kit.region_inv (m := 11) [97, 98, 99, 100, 101, 96, 102, 103, 104, 16, 17] [7, 8] (kit.Fs [kit.isV (.agg #[.slice a0 L0.length c0, .slice b0 M0.length d0]), kit.isM (w28.heap.size) L0 M0 id, kit.isV (.agg #[.int .i64 a1_0, .int .i64 a1_1, .int .i64 a1_2, .int .i64 a1_3, .int .i64 a1_4, .int .i64 a1_5]), kit.isV (.agg #[.int .i64 a1_0, .int .i64 a1_1, .int .i64 a1_2, .int .i64 a1_3, .int .i64 a1_4, .int .i64 a1_5]), kit.isM (w28.heap.size) T1 T2 (fun m => .tuple #[m, .agg #[.bool T3, .int .i64 T4], .bool T5]), kit.isM (w28.heap.size) T1 T2 (fun m => .tuple #[m, .agg #[.bool T3, .int .i64 T4], .bool T5]), kit.isM (w28.heap.size) T1 T2 id, kit.isV (.agg #[.bool T3, .int .i64 T4]), kit.isV (.bool T5), kit.isB (w28.heap.size) 27 (.slice none 0 0) (.slice none 0 0), kit.isB (w28.heap.size) 33 (.bool false) (.int .i64 0)]) (by kernel_rfl) (by decide) rfl (by decide) (by kernel_rfl) (by kernel_rfl) (by kernel_rfl) (fun _ _ _ _ _ h => h) (kit.Fs_mono ⟨kit.isV_mono _, kit.isM_mono _ _ _ _, kit.isV_mono _, kit.isV_mono _, kit.isM_mono _ _ _ _, kit.isM_mono _ _ _ _, kit.isM_mono _ _ _ _, kit.isV_mono _, kit.isV_mono _, kit.isB_mono _ _ _ _, kit.isB_mono _ _ _ _, trivial⟩) ?step ?float ?tail
          case float =>
            intro f hf vs wq hd
            simp only [List.mem_cons, List.not_mem_nil, or_false] at hf
            rcases hf with rfl | rfl
            · obtain ⟨x1, x2, e5, h1, h2⟩ : (kit.isM (w28.heap.size) T1 T2 (fun m => .tuple #[m, .agg #[.bool T3, .int .i64 T4], .bool T5])) (vs 5) wq := hd 5 (List.contains_iff_mem.1 (by kernel_rfl))
              refine ⟨_, .agg #[.bool T3, .int .i64 T4], rfl, rfl, .inl ⟨by rfl, fun w9 => ?_⟩, rfl⟩
              simp only [kit.lay, Act.put, List.setIfInBounds_toArray, List.set_cons_zero, List.set_cons_succ, List.getD_cons_zero, List.getD_cons_succ, id_eq]
              rw [e5]
              go_simp
            · obtain ⟨x1, x2, e5, h1, h2⟩ : (kit.isM (w28.heap.size) T1 T2 (fun m => .tuple #[m, .agg #[.bool T3, .int .i64 T4], .bool T5])) (vs 5) wq := hd 5 (List.contains_iff_mem.1 (by kernel_rfl))
              refine ⟨_, .bool T5, rfl, rfl, .inl ⟨by rfl, fun w9 => ?_⟩, rfl⟩
              simp only [kit.lay, Act.put, List.setIfInBounds_toArray, List.set_cons_zero, List.set_cons_succ, List.getD_cons_zero, List.getD_cons_succ, id_eq]
              rw [e5]
              go_simp
          case step =>
            intro i hi vs wq hBq hd
            rcases (show i = 0 ∨ i = 1 ∨ i = 2 ∨ i = 3 ∨ i = 4 ∨ i = 5 ∨ i = 6 ∨ i = 7 ∨ i = 8 ∨ i = 9 ∨ i = 10 from by omega) with rfl | rfl | rfl | rfl | rfl | rfl | rfl | rfl | rfl | rfl | rfl
            · have zpw1_0 := (hBq.cell (p := ⟨pw1, 0, none⟩) hpw1).trans xpw1_0
              have zpw1_1 := (hBq.cell (p := ⟨pw1, 1, none⟩) hpw1).trans xpw1_1
              refine wpOp_step (o := _) rfl (fun K' hK => ?_)
              have HK := Lib.hid hK
              clear hK
              simp only [kit.lay, Act.put, List.setIfInBounds_toArray, List.set_cons_zero, List.set_cons_succ, List.getD_cons_zero, List.getD_cons_succ, id_eq]
              go_simp
              refine HK.out _ _ ⟨_, ?_, Below.refl _ _, rfl⟩
              simp only [kit.lay, Act.put, List.setIfInBounds_toArray, List.set_cons_zero, List.set_cons_succ, List.getD_cons_zero, List.getD_cons_succ, id_eq]
            · have e0 : vs 0 = .agg #[.slice a0 L0.length c0, .slice b0 M0.length d0] := hd 0 (List.contains_iff_mem.1 (by kernel_rfl))
              refine wpOp_step (o := _) rfl (fun K' hK => ?_)
              have HK := Lib.hid hK
              clear hK
              simp only [kit.lay, Act.put, List.setIfInBounds_toArray, List.set_cons_zero, List.set_cons_succ, List.getD_cons_zero, List.getD_cons_succ, id_eq]
              rw [e0]
              go_simp
              go_at_call 33
              refine (kit.toMachine a0 c0 L0 b0 d0 M0 wq (by omega) (by omega) (HA0.out.later hBq) (HM0.out.later hBq)).mono ?_
              rintro e w2 ⟨x1, x2, rfl, h1, h2, hb⟩
              refine HK.out _ _ ⟨_, ?_, hb, x1, x2, rfl, h1.mono hBq.size, h2.mono hBq.size⟩
              simp only [kit.lay, Act.put, List.setIfInBounds_toArray, List.set_cons_zero, List.set_cons_succ, List.getD_cons_zero, List.getD_cons_succ, id_eq]
              rw [e0]
            · have zpw2_0 := (hBq.cell (p := ⟨pw2, 0, none⟩) hpw2).trans xpw2_0
              have zpw2_1 := (hBq.cell (p := ⟨pw2, 1, none⟩) hpw2).trans xpw2_1
              have zpw2_2 := (hBq.cell (p := ⟨pw2, 2, none⟩) hpw2).trans xpw2_2
              have zpw2_3 := (hBq.cell (p := ⟨pw2, 3, none⟩) hpw2).trans xpw2_3
              have zpw2_4 := (hBq.cell (p := ⟨pw2, 4, none⟩) hpw2).trans xpw2_4
              have zpw2_5 := (hBq.cell (p := ⟨pw2, 5, none⟩) hpw2).trans xpw2_5
              refine wpOp_step (o := _) rfl (fun K' hK => ?_)
              have HK := Lib.hid hK
              clear hK
              simp only [kit.lay, Act.put, List.setIfInBounds_toArray, List.set_cons_zero, List.set_cons_succ, List.getD_cons_zero, List.getD_cons_succ, id_eq]
              go_simp
              refine HK.out _ _ ⟨_, ?_, Below.refl _ _, rfl⟩
              simp only [kit.lay, Act.put, List.setIfInBounds_toArray, List.set_cons_zero, List.set_cons_succ, List.getD_cons_zero, List.getD_cons_succ, id_eq]
            · have e2 : vs 2 = .agg #[.int .i64 a1_0, .int .i64 a1_1, .int .i64 a1_2, .int .i64 a1_3, .int .i64 a1_4, .int .i64 a1_5] := hd 2 (List.contains_iff_mem.1 (by kernel_rfl))
              refine wpOp_step (o := _) rfl (fun K' hK => ?_)
              have HK := Lib.hid hK
              clear hK
              simp only [kit.lay, Act.put, List.setIfInBounds_toArray, List.set_cons_zero, List.set_cons_succ, List.getD_cons_zero, List.getD_cons_succ, id_eq]
              rw [e2]
              go_simp
              go_at_call 34
              refine (kit.toOp a1_0 a1_1 a1_2 a1_3 a1_4 a1_5 wq).mono ?_
              rintro e w2 ⟨rfl, hb⟩
              refine HK.out _ _ ⟨_, ?_, hb, rfl⟩
              simp only [kit.lay, Act.put, List.setIfInBounds_toArray, List.set_cons_zero, List.set_cons_succ, List.getD_cons_zero, List.getD_cons_succ, id_eq]
              rw [e2]
            · obtain ⟨xr29, xr30, e1, hor29, hor30⟩ : kit.isM (w28.heap.size) L0 M0 id (vs 1) wq := hd 1 (List.contains_iff_mem.1 (by kernel_rfl))
              simp only [id] at e1
              obtain ⟨yr29, qr29, rfl⟩ := hor29.shape
              obtain ⟨yr30, qr30, rfl⟩ := hor30.shape
              have HOr29 := Lib.hid hor29
              have HOr30 := Lib.hid hor30
              have e3 : vs 3 = .agg #[.int .i64 a1_0, .int .i64 a1_1, .int .i64 a1_2, .int .i64 a1_3, .int .i64 a1_4, .int .i64 a1_5] := hd 3 (List.contains_iff_mem.1 (by kernel_rfl))
              refine wpOp_step (o := _) rfl (fun K' hK => ?_)
              have HK := Lib.hid hK
              clear hK
              simp only [kit.lay, Act.put, List.setIfInBounds_toArray, List.set_cons_zero, List.set_cons_succ, List.getD_cons_zero, List.getD_cons_succ, id_eq]
              rw [e1, e3]
              go_simp
              go_at_call 11
              refine (kit.implApplyOp _ _ (.slice yr29 L0.length qr29) (.slice yr30 M0.length qr30) L0 M0 a1_0 a1_1 a1_2 a1_3 a1_4 a1_5 wq (by omega) (by omega) HOr29.out HOr30.out).mono ?_
              rintro e w2 ⟨x1, x2, he, h1, h2, hb⟩
              rw [HT1.out] at h1
              rw [HT2.out] at h2
              rw [HT3.out] at he
              rw [HT4.out] at he
              rw [HT5.out] at he
              subst he
              refine HK.out _ _ ⟨_, ?_, hb, x1, x2, rfl, h1.mono hBq.size, h2.mono hBq.size⟩
              simp only [kit.lay, Act.put, List.setIfInBounds_toArray, List.set_cons_zero, List.set_cons_succ, List.getD_cons_zero, List.getD_cons_succ, id_eq]
              rw [e1, e3]
            · have f4 : (kit.isM (w28.heap.size) T1 T2 (fun m => .tuple #[m, .agg #[.bool T3, .int .i64 T4], .bool T5])) (vs 4) wq := hd 4 (List.contains_iff_mem.1 (by kernel_rfl))
              refine wpOp_step (o := _) rfl (fun K' hK => ?_)
              have HK := Lib.hid hK
              clear hK
              simp only [kit.lay, Act.put, List.setIfInBounds_toArray, List.set_cons_zero, List.set_cons_succ, List.getD_cons_zero, List.getD_cons_succ, id_eq]
              go_simp
              refine HK.out _ _ ⟨_, ?_, Below.refl _ _, f4⟩
              simp only [kit.lay, Act.put, List.setIfInBounds_toArray, List.set_cons_zero, List.set_cons_succ, List.getD_cons_zero, List.getD_cons_succ, id_eq]
            · obtain ⟨x1, x2, e5, h1, h2⟩ : (kit.isM (w28.heap.size) T1 T2 (fun m => .tuple #[m, .agg #[.bool T3, .int .i64 T4], .bool T5])) (vs 5) wq := hd 5 (List.contains_iff_mem.1 (by kernel_rfl))
              refine wpOp_step (o := _) rfl (fun K' hK => ?_)
              have HK := Lib.hid hK
              clear hK
              simp only [kit.lay, Act.put, List.setIfInBounds_toArray, List.set_cons_zero, List.set_cons_succ, List.getD_cons_zero, List.getD_cons_succ, id_eq]
              rw [e5]
              go_simp
              refine HK.out _ _ ⟨_, ?_, Below.refl _ _, x1, x2, rfl, h1, h2⟩
              simp only [kit.lay, Act.put, List.setIfInBounds_toArray, List.set_cons_zero, List.set_cons_succ, List.getD_cons_zero, List.getD_cons_succ, id_eq]
              rw [e5]
            · obtain ⟨x1, x2, e5, h1, h2⟩ : (kit.isM (w28.heap.size) T1 T2 (fun m => .tuple #[m, .agg #[.bool T3, .int .i64 T4], .bool T5])) (vs 5) wq := hd 5 (List.contains_iff_mem.1 (by kernel_rfl))
              refine wpOp_step (o := _) rfl (fun K' hK => ?_)
              have HK := Lib.hid hK
              clear hK
              simp only [kit.lay, Act.put, List.setIfInBounds_toArray, List.set_cons_zero, List.set_cons_succ, List.getD_cons_zero, List.getD_cons_succ, id_eq]
              rw [e5]
              go_simp
              refine HK.out _ _ ⟨_, ?_, Below.refl _ _, rfl⟩
              simp only [kit.lay, Act.put, List.setIfInBounds_toArray, List.set_cons_zero, List.set_cons_succ, List.getD_cons_zero, List.getD_cons_succ, id_eq]
              rw [e5]
            · obtain ⟨x1, x2, e5, h1, h2⟩ : (kit.isM (w28.heap.size) T1 T2 (fun m => .tuple #[m, .agg #[.bool T3, .int .i64 T4], .bool T5])) (vs 5) wq := hd 5 (List.contains_iff_mem.1 (by kernel_rfl))
              refine wpOp_step (o := _) rfl (fun K' hK => ?_)
              have HK := Lib.hid hK
              clear hK
              simp only [kit.lay, Act.put, List.setIfInBounds_toArray, List.set_cons_zero, List.set_cons_succ, List.getD_cons_zero, List.getD_cons_succ, id_eq]
              rw [e5]
              go_simp
              refine HK.out _ _ ⟨_, ?_, Below.refl _ _, rfl⟩
              simp only [kit.lay, Act.put, List.setIfInBounds_toArray, List.set_cons_zero, List.set_cons_succ, List.getD_cons_zero, List.getD_cons_succ, id_eq]
              rw [e5]
            · refine wpOp_step (o := _) rfl (fun K' hK => ?_)
              have HK := Lib.hid hK
              clear hK
              simp only [kit.lay, Act.put, List.setIfInBounds_toArray, List.set_cons_zero, List.set_cons_succ, List.getD_cons_zero, List.getD_cons_succ, id_eq]
              go_simp
              refine HK.out _ _ ⟨_, ?_, (Below.refl _ _).alloc (Nat.le_refl _) _, _, rfl, kit.Box2.new _ _ _ _, hBq.size⟩
              simp only [kit.lay, Act.put, List.setIfInBounds_toArray, List.set_cons_zero, List.set_cons_succ, List.getD_cons_zero, List.getD_cons_succ, id_eq]
            · refine wpOp_step (o := _) rfl (fun K' hK => ?_)
              have HK := Lib.hid hK
              clear hK
              simp only [kit.lay, Act.put, List.setIfInBounds_toArray, List.set_cons_zero, List.set_cons_succ, List.getD_cons_zero, List.getD_cons_succ, id_eq]
              go_simp
              refine HK.out _ _ ⟨_, ?_, (Below.refl _ _).alloc (Nat.le_refl _) _, _, rfl, kit.Box2.new _ _ _ _, hBq.size⟩
              simp only [kit.lay, Act.put, List.setIfInBounds_toArray, List.set_cons_zero, List.set_cons_succ, List.getD_cons_zero, List.getD_cons_succ, id_eq]
          case tail =>
            intro vs wq hBq hf
            obtain ⟨xI, xS, e6, hI, hS⟩ : kit.isM (w28.heap.size) T1 T2 id (vs 6) wq := hf 6 (by decide)
            simp only [id] at e6
            obtain ⟨yI, qI, rfl⟩ := hI.shape
            obtain ⟨yS, qS, rfl⟩ := hS.shape
            have e7 : vs 7 = .agg #[.bool T3, .int .i64 T4] := hf 7 (by decide)
            have e8 : vs 8 = .bool T5 := hf 8 (by decide)
            obtain ⟨p0, e9, b0, n0⟩ : kit.isB (w28.heap.size) 27 (.slice none 0 0) (.slice none 0 0) (vs 9) wq := hf 9 (by decide)
            obtain ⟨p1, e10, b1, n1⟩ : kit.isB (w28.heap.size) 33 (.bool false) (.int .i64 0) (vs 10) wq := hf 10 (by decide)
            simp only [kit.lay, Act.put, List.setIfInBounds_toArray, List.set_cons_zero, List.set_cons_succ, List.getD_cons_zero, List.getD_cons_succ, id_eq]
            rw [e6, e7, e8, e9, e10]
            clear e6 e7 e8 e9 e10
            refine kit.any_all (rs := [11]) (by kernel_rfl) (by simp) ?_
            intro i hi
            simp only [List.mem_cons, List.not_mem_nil, or_false] at hi
            subst hi
            refine wpOp_step (o := _) rfl (fun K' hK => ?_)
            have HK := Lib.hid hK
            clear hK
            have kc0 := b0.c0
            have kc1 := b0.c1
            have kf0 := b0.f 0
            have kf1 := b0.f 1
            go_simp
            refine HK.out _ _ ?_
            clear HK K' kc0 kc1 kf0 kf1
            try simp only [Act.put, List.setIfInBounds_toArray, List.set_cons_zero, List.set_cons_succ]
            obtain ⟨wt11, hW⟩ : ∃ W, W = (wq.setCell ⟨p0, 0, none⟩ (.slice yI T1.length qI)).setCell ⟨p0, 1, none⟩ (.slice yS T2.length qS) := ⟨_, rfl⟩
            rw [← hW]
            replace b1 := (hW ▸ (b1.keep (b1.other b0 (by decide)) _ _) : kit.Box2 wt11 _ _ _ _)
            replace hI : kit.OwnI (w28.heap.size) wt11 _ T1 := hW ▸ kit.row_set2 hI b0 (by decide) _ _
            replace hS : kit.OwnS (w28.heap.size) wt11 _ T2 := hW ▸ kit.row_set2 hS b0 (by decide) _ _
            have hB11 : Below (w28.heap.size) w28 wt11 := hW ▸ kit.below_set2 hBq n0 _ _
            replace b0 := (hW ▸ (b0.set _ _) : kit.Box2 wt11 _ _ _ _)
            clear hW
            refine kit.any_all (rs := [12]) (by kernel_rfl) (by simp) ?_
            intro i hi
            simp only [List.mem_cons, List.not_mem_nil, or_false] at hi
            subst hi
            refine wpOp_step (o := _) rfl (fun K' hK => ?_)
            have HK := Lib.hid hK
            clear hK
            have kc0 := b1.c0
            have kc1 := b1.c1
            have kf0 := b1.f 0
            have kf1 := b1.f 1
            go_simp
            refine HK.out _ _ ?_
            clear HK K' kc0 kc1 kf0 kf1
            try simp only [Act.put, List.setIfInBounds_toArray, List.set_cons_zero, List.set_cons_succ]
            obtain ⟨wt12, hW⟩ : ∃ W, W = (wt11.setCell ⟨p1, 0, none⟩ (.bool T3)).setCell ⟨p1, 1, none⟩ (.int .i64 T4) := ⟨_, rfl⟩
            rw [← hW]
            replace b0 := (hW ▸ (b0.keep (b0.other b1 (by decide)) _ _) : kit.Box2 wt12 _ _ _ _)
            replace hI : kit.OwnI (w28.heap.size) wt12 _ T1 := hW ▸ kit.row_set2 hI b1 (by decide) _ _
            replace hS : kit.OwnS (w28.heap.size) wt12 _ T2 := hW ▸ kit.row_set2 hS b1 (by decide) _ _
            have hB12 : Below (w28.heap.size) w28 wt12 := hW ▸ kit.below_set2 hB11 n1 _ _
            replace b1 := (hW ▸ (b1.set _ _) : kit.Box2 wt12 _ _ _ _)
            clear hW
            refine kit.any_all (rs := [13]) (by kernel_rfl) (by simp) ?_
            intro i hi
            simp only [List.mem_cons, List.not_mem_nil, or_false] at hi
            subst hi
            refine wpOp_step (o := _) rfl (fun K' hK => ?_)
            have HK := Lib.hid hK
            clear hK
            go_simp
            refine HK.out _ _ ?_
            clear HK K'
            try simp only [Act.put, List.setIfInBounds_toArray, List.set_cons_zero, List.set_cons_succ]
            refine kit.any_done (by kernel_rfl) ?_ _
            go_wp2_with fail
            go_meet
            exact ⟨p0, p1, _, _, rfl, rfl, rfl, b0, b1, hI, hS, n0, n1, hB12⟩
        case rest =>
          obtain ⟨p0, p1, xI, xS, rfl, rfl, rfl, b0, b1, hoI, hoS, n0, n1, hb⟩ := hcut
          obtain ⟨p31, rfl⟩ : ∃ p, p = p0 := ⟨_, rfl⟩
          obtain ⟨p32, rfl⟩ : ∃ p, p = p1 := ⟨_, rfl⟩
          obtain ⟨yr33, qr33, rfl⟩ := hoI.shape
          obtain ⟨yr34, qr34, rfl⟩ := hoS.shape
          replace xpw1_0 := (hb.cell (p := ⟨pw1, 0, none⟩) hpw1).trans xpw1_0
          replace xpw1_1 := (hb.cell (p := ⟨pw1, 1, none⟩) hpw1).trans xpw1_1
          replace hpw1 := Nat.lt_of_lt_of_le hpw1 hb.size
          replace xpw2_0 := (hb.cell (p := ⟨pw2, 0, none⟩) hpw2).trans xpw2_0
          replace xpw2_1 := (hb.cell (p := ⟨pw2, 1, none⟩) hpw2).trans xpw2_1
          replace xpw2_2 := (hb.cell (p := ⟨pw2, 2, none⟩) hpw2).trans xpw2_2
          replace xpw2_3 := (hb.cell (p := ⟨pw2, 3, none⟩) hpw2).trans xpw2_3
          replace xpw2_4 := (hb.cell (p := ⟨pw2, 4, none⟩) hpw2).trans xpw2_4
          replace xpw2_5 := (hb.cell (p := ⟨pw2, 5, none⟩) hpw2).trans xpw2_5
          replace hpw2 := Nat.lt_of_lt_of_le hpw2 hb.size
          replace xp6_0 := (hb.cell (p := ⟨p6, 0, none⟩) hp6).trans xp6_0
          replace xp6_1 := (hb.cell (p := ⟨p6, 1, none⟩) hp6).trans xp6_1
          replace hp6 := Nat.lt_of_lt_of_le hp6 hb.size
          replace xp7_0 := (hb.cell (p := ⟨p7, 0, none⟩) hp7).trans xp7_0
          replace xp7_1 := (hb.cell (p := ⟨p7, 1, none⟩) hp7).trans xp7_1
          replace hp7 := Nat.lt_of_lt_of_le hp7 hb.size
          replace xpw15_0 := (hb.cell (p := ⟨pw15, 0, none⟩) hpw15).trans xpw15_0
          replace xpw15_1 := (hb.cell (p := ⟨pw15, 1, none⟩) hpw15).trans xpw15_1
          replace hpw15 := Nat.lt_of_lt_of_le hpw15 hb.size
          replace xp16_0 := (hb.cell (p := ⟨p16, 0, none⟩) hp16).trans xp16_0
          replace xp16_1 := (hb.cell (p := ⟨p16, 1, none⟩) hp16).trans xp16_1
          replace hp16 := Nat.lt_of_lt_of_le hp16 hb.size
          replace xp17_0 := (hb.cell (p := ⟨p17, 0, none⟩) hp17).trans xp17_0
          replace xp17_1 := (hb.cell (p := ⟨p17, 1, none⟩) hp17).trans xp17_1
          replace hp17 := Nat.lt_of_lt_of_le hp17 hb.size
          replace HB := Lib.hid (HB.out.trans (hb.mono hz))
          replace hz := Nat.le_trans hz hb.size
          have HZwc := Lib.hid hb.size
          replace HOr8 := Lib.hid (HOr8.out.later hb)
          replace HOr9 := Lib.hid (HOr9.out.later hb)
          replace HOr13 := Lib.hid (HOr13.out.later hb)
          replace HOr14 := Lib.hid (HOr14.out.later hb)
          replace HOr18 := Lib.hid (HOr18.out.later hb)
          replace HOr19 := Lib.hid (HOr19.out.later hb)
          replace HA0 := Lib.hid (HA0.out.later hb)
          replace HM0 := Lib.hid (HM0.out.later hb)
          have HOr33 := Lib.hid hoI
          have HUr33 := Lib.hid (fun g (hg : (.slice yr33 T1.length qr33 : Value).ownBlock = some g) => (⟨(hoI.block g hg).1, (hoI.block g hg).2, fun e => b0.not_row (by decide) hoI (by rw [hg, e]), fun e => b1.not_row (by decide) hoI (by rw [hg, e])⟩ : w28.heap.size ≤ g ∧ g < wc.heap.size ∧ g ≠ p31 ∧ g ≠ p32))
          have HOr34 := Lib.hid hoS
          have HUr34 := Lib.hid (fun g (hg : (.slice yr34 T2.length qr34 : Value).ownBlock = some g) => (⟨(hoS.block g hg).1, (hoS.block g hg).2, fun e => b0.not_row (by decide) hoS (by rw [hg, e]), fun e => b1.not_row (by decide) hoS (by rw [hg, e])⟩ : w28.heap.size ≤ g ∧ g < wc.heap.size ∧ g ≠ p31 ∧ g ≠ p32))
          have hp31 := b0.lt
          have xp31_0 := b0.c0
          have xp31_1 := b0.c1
          have Ep31 := Lib.hid n0
          have Sp31 := Lib.hid b0.lt
          have hp32 := b1.lt
          have xp32_0 := b1.c0
          have xp32_1 := b1.c1
          have Ep32 := Lib.hid n1
          have Sp32 := Lib.hid b1.lt
          have Dp31p32 := Lib.hid (b0.other b1 (by decide))
          clear b0 n0 b1 n1 hoI hoS hb
          obtain ⟨w35, rfl⟩ : ∃ W, W = wc := ⟨_, rfl⟩
          go_wp2_with fail
          refine (kit.eqMachineO _ _ (.slice yr33 T1.length qr33) (.slice yr34 T2.length qr34) T1 T2 _ _ (.slice yr8 T1.length qr8) (.slice yr9 T2.length qr9) T1 T2 w35 (by omega) (by omega) HOr33.out HOr34.out (by omega) (by omega) HOr8.out HOr9.out).mono ?_
          rintro e w36 ⟨he, hb⟩
          rw [decide_eq_true ⟨rfl, rfl⟩] at he
          subst he
          replace xpw1_0 := (hb.cell (p := ⟨pw1, 0, none⟩) hpw1).trans xpw1_0
          replace xpw1_1 := (hb.cell (p := ⟨pw1, 1, none⟩) hpw1).trans xpw1_1
          replace hpw1 := Nat.lt_of_lt_of_le hpw1 hb.size
          replace xpw2_0 := (hb.cell (p := ⟨pw2, 0, none⟩) hpw2).trans xpw2_0
          replace xpw2_1 := (hb.cell (p := ⟨pw2, 1, none⟩) hpw2).trans xpw2_1
          replace xpw2_2 := (hb.cell (p := ⟨pw2, 2, none⟩) hpw2).trans xpw2_2
          replace xpw2_3 := (hb.cell (p := ⟨pw2, 3, none⟩) hpw2).trans xpw2_3
          replace xpw2_4 := (hb.cell (p := ⟨pw2, 4, none⟩) hpw2).trans xpw2_4
          replace xpw2_5 := (hb.cell (p := ⟨pw2, 5, none⟩) hpw2).trans xpw2_5
          replace hpw2 := Nat.lt_of_lt_of_le hpw2 hb.size
          replace xp6_0 := (hb.cell (p := ⟨p6, 0, none⟩) hp6).trans xp6_0
          replace xp6_1 := (hb.cell (p := ⟨p6, 1, none⟩) hp6).trans xp6_1
          replace hp6 := Nat.lt_of_lt_of_le hp6 hb.size
          replace xp7_0 := (hb.cell (p := ⟨p7, 0, none⟩) hp7).trans xp7_0
          replace xp7_1 := (hb.cell (p := ⟨p7, 1, none⟩) hp7).trans xp7_1
          replace hp7 := Nat.lt_of_lt_of_le hp7 hb.size
          replace xpw15_0 := (hb.cell (p := ⟨pw15, 0, none⟩) hpw15).trans xpw15_0
          replace xpw15_1 := (hb.cell (p := ⟨pw15, 1, none⟩) hpw15).trans xpw15_1
          replace hpw15 := Nat.lt_of_lt_of_le hpw15 hb.size
          replace xp16_0 := (hb.cell (p := ⟨p16, 0, none⟩) hp16).trans xp16_0
          replace xp16_1 := (hb.cell (p := ⟨p16, 1, none⟩) hp16).trans xp16_1
          replace hp16 := Nat.lt_of_lt_of_le hp16 hb.size
          replace xp17_0 := (hb.cell (p := ⟨p17, 0, none⟩) hp17).trans xp17_0
          replace xp17_1 := (hb.cell (p := ⟨p17, 1, none⟩) hp17).trans xp17_1
          replace hp17 := Nat.lt_of_lt_of_le hp17 hb.size
          replace xp31_0 := (hb.cell (p := ⟨p31, 0, none⟩) hp31).trans xp31_0
          replace xp31_1 := (hb.cell (p := ⟨p31, 1, none⟩) hp31).trans xp31_1
          replace hp31 := Nat.lt_of_lt_of_le hp31 hb.size
          replace xp32_0 := (hb.cell (p := ⟨p32, 0, none⟩) hp32).trans xp32_0
          replace xp32_1 := (hb.cell (p := ⟨p32, 1, none⟩) hp32).trans xp32_1
          replace hp32 := Nat.lt_of_lt_of_le hp32 hb.size
          replace HB := Lib.hid (HB.out.trans (hb.mono hz))
          replace hz := Nat.le_trans hz hb.size
          have HZw36 := Lib.hid hb.size
          replace HOr8 := Lib.hid (HOr8.out.later hb)
          replace HOr9 := Lib.hid (HOr9.out.later hb)
          replace HOr13 := Lib.hid (HOr13.out.later hb)
          replace HOr14 := Lib.hid (HOr14.out.later hb)
          replace HOr18 := Lib.hid (HOr18.out.later hb)
          replace HOr19 := Lib.hid (HOr19.out.later hb)
          replace HOr33 := Lib.hid (HOr33.out.later hb)
          replace HOr34 := Lib.hid (HOr34.out.later hb)
          replace HA0 := Lib.hid (HA0.out.later hb)
          replace HM0 := Lib.hid (HM0.out.later hb)
          clear hb
          go_wp2_with fail
          refine (kit.eqResult T3 T4 T3 T4 w36).mono ?_
          rintro e w37 ⟨he, hb⟩
          rw [decide_eq_true rfl, decide_eq_true rfl] at he
          subst he
          replace xpw1_0 := (hb.cell (p := ⟨pw1, 0, none⟩) hpw1).trans xpw1_0
          replace xpw1_1 := (hb.cell (p := ⟨pw1, 1, none⟩) hpw1).trans xpw1_1
          replace hpw1 := Nat.lt_of_lt_of_le hpw1 hb.size
          replace xpw2_0 := (hb.cell (p := ⟨pw2, 0, none⟩) hpw2).trans xpw2_0
          replace xpw2_1 := (hb.cell (p := ⟨pw2, 1, none⟩) hpw2).trans xpw2_1
          replace xpw2_2 := (hb.cell (p := ⟨pw2, 2, none⟩) hpw2).trans xpw2_2
          replace xpw2_3 := (hb.cell (p := ⟨pw2, 3, none⟩) hpw2).trans xpw2_3
          replace xpw2_4 := (hb.cell (p := ⟨pw2, 4, none⟩) hpw2).trans xpw2_4
          replace xpw2_5 := (hb.cell (p := ⟨pw2, 5, none⟩) hpw2).trans xpw2_5
          replace hpw2 := Nat.lt_of_lt_of_le hpw2 hb.size
          replace xp6_0 := (hb.cell (p := ⟨p6, 0, none⟩) hp6).trans xp6_0
          replace xp6_1 := (hb.cell (p := ⟨p6, 1, none⟩) hp6).trans xp6_1
          replace hp6 := Nat.lt_of_lt_of_le hp6 hb.size
          replace xp7_0 := (hb.cell (p := ⟨p7, 0, none⟩) hp7).trans xp7_0
          replace xp7_1 := (hb.cell (p := ⟨p7, 1, none⟩) hp7).trans xp7_1
          replace hp7 := Nat.lt_of_lt_of_le hp7 hb.size
          replace xpw15_0 := (hb.cell (p := ⟨pw15, 0, none⟩) hpw15).trans xpw15_0
          replace xpw15_1 := (hb.cell (p := ⟨pw15, 1, none⟩) hpw15).trans xpw15_1
          replace hpw15 := Nat.lt_of_lt_of_le hpw15 hb.size
          replace xp16_0 := (hb.cell (p := ⟨p16, 0, none⟩) hp16).trans xp16_0
          replace xp16_1 := (hb.cell (p := ⟨p16, 1, none⟩) hp16).trans xp16_1
          replace hp16 := Nat.lt_of_lt_of_le hp16 hb.size
          replace xp17_0 := (hb.cell (p := ⟨p17, 0, none⟩) hp17).trans xp17_0
          replace xp17_1 := (hb.cell (p := ⟨p17, 1, none⟩) hp17).trans xp17_1
          replace hp17 := Nat.lt_of_lt_of_le hp17 hb.size
          replace xp31_0 := (hb.cell (p := ⟨p31, 0, none⟩) hp31).trans xp31_0
          replace xp31_1 := (hb.cell (p := ⟨p31, 1, none⟩) hp31).trans xp31_1
          replace hp31 := Nat.lt_of_lt_of_le hp31 hb.size
          replace xp32_0 := (hb.cell (p := ⟨p32, 0, none⟩) hp32).trans xp32_0
          replace xp32_1 := (hb.cell (p := ⟨p32, 1, none⟩) hp32).trans xp32_1
          replace hp32 := Nat.lt_of_lt_of_le hp32 hb.size
          replace HB := Lib.hid (HB.out.trans (hb.mono hz))
          replace hz := Nat.le_trans hz hb.size
          have HZw37 := Lib.hid hb.size
          replace HOr8 := Lib.hid (HOr8.out.later hb)
          replace HOr9 := Lib.hid (HOr9.out.later hb)
          replace HOr13 := Lib.hid (HOr13.out.later hb)
          replace HOr14 := Lib.hid (HOr14.out.later hb)
          replace HOr18 := Lib.hid (HOr18.out.later hb)
          replace HOr19 := Lib.hid (HOr19.out.later hb)
          replace HOr33 := Lib.hid (HOr33.out.later hb)
          replace HOr34 := Lib.hid (HOr34.out.later hb)
          replace HA0 := Lib.hid (HA0.out.later hb)
          replace HM0 := Lib.hid (HM0.out.later hb)
          clear hb
          go_wp2_with fail
          refine (kit.heldMachine _ _ (.slice yr18 T1.length qr18) (.slice yr19 T2.length qr19) (T1.length) (T2.length) w37 (by omega) (by omega) HOr18.out HOr19.out 1 rfl).mono ?_
          rintro e w38 ⟨rfl, hb⟩
          replace xpw1_0 := (hb.cell (p := ⟨pw1, 0, none⟩) hpw1).trans xpw1_0
          replace xpw1_1 := (hb.cell (p := ⟨pw1, 1, none⟩) hpw1).trans xpw1_1
          replace hpw1 := Nat.lt_of_lt_of_le hpw1 hb.size
          replace xpw2_0 := (hb.cell (p := ⟨pw2, 0, none⟩) hpw2).trans xpw2_0
          replace xpw2_1 := (hb.cell (p := ⟨pw2, 1, none⟩) hpw2).trans xpw2_1
          replace xpw2_2 := (hb.cell (p := ⟨pw2, 2, none⟩) hpw2).trans xpw2_2
          replace xpw2_3 := (hb.cell (p := ⟨pw2, 3, none⟩) hpw2).trans xpw2_3
          replace xpw2_4 := (hb.cell (p := ⟨pw2, 4, none⟩) hpw2).trans xpw2_4
          replace xpw2_5 := (hb.cell (p := ⟨pw2, 5, none⟩) hpw2).trans xpw2_5
          replace hpw2 := Nat.lt_of_lt_of_le hpw2 hb.size
          replace xp6_0 := (hb.cell (p := ⟨p6, 0, none⟩) hp6).trans xp6_0
          replace xp6_1 := (hb.cell (p := ⟨p6, 1, none⟩) hp6).trans xp6_1
          replace hp6 := Nat.lt_of_lt_of_le hp6 hb.size
          replace xp7_0 := (hb.cell (p := ⟨p7, 0, none⟩) hp7).trans xp7_0
          replace xp7_1 := (hb.cell (p := ⟨p7, 1, none⟩) hp7).trans xp7_1
          replace hp7 := Nat.lt_of_lt_of_le hp7 hb.size
          replace xpw15_0 := (hb.cell (p := ⟨pw15, 0, none⟩) hpw15).trans xpw15_0
          replace xpw15_1 := (hb.cell (p := ⟨pw15, 1, none⟩) hpw15).trans xpw15_1
          replace hpw15 := Nat.lt_of_lt_of_le hpw15 hb.size
          replace xp16_0 := (hb.cell (p := ⟨p16, 0, none⟩) hp16).trans xp16_0
          replace xp16_1 := (hb.cell (p := ⟨p16, 1, none⟩) hp16).trans xp16_1
          replace hp16 := Nat.lt_of_lt_of_le hp16 hb.size
          replace xp17_0 := (hb.cell (p := ⟨p17, 0, none⟩) hp17).trans xp17_0
          replace xp17_1 := (hb.cell (p := ⟨p17, 1, none⟩) hp17).trans xp17_1
          replace hp17 := Nat.lt_of_lt_of_le hp17 hb.size
          replace xp31_0 := (hb.cell (p := ⟨p31, 0, none⟩) hp31).trans xp31_0
          replace xp31_1 := (hb.cell (p := ⟨p31, 1, none⟩) hp31).trans xp31_1
          replace hp31 := Nat.lt_of_lt_of_le hp31 hb.size
          replace xp32_0 := (hb.cell (p := ⟨p32, 0, none⟩) hp32).trans xp32_0
          replace xp32_1 := (hb.cell (p := ⟨p32, 1, none⟩) hp32).trans xp32_1
          replace hp32 := Nat.lt_of_lt_of_le hp32 hb.size
          replace HB := Lib.hid (HB.out.trans (hb.mono hz))
          replace hz := Nat.le_trans hz hb.size
          have HZw38 := Lib.hid hb.size
          replace HOr8 := Lib.hid (HOr8.out.later hb)
          replace HOr9 := Lib.hid (HOr9.out.later hb)
          replace HOr13 := Lib.hid (HOr13.out.later hb)
          replace HOr14 := Lib.hid (HOr14.out.later hb)
          replace HOr18 := Lib.hid (HOr18.out.later hb)
          replace HOr19 := Lib.hid (HOr19.out.later hb)
          replace HOr33 := Lib.hid (HOr33.out.later hb)
          replace HOr34 := Lib.hid (HOr34.out.later hb)
          replace HA0 := Lib.hid (HA0.out.later hb)
          replace HM0 := Lib.hid (HM0.out.later hb)
          clear hb
          go_wp2_with fail
          go_ret
          exact ⟨rfl, HB.out⟩
set_option maxRecDepth 100000 in
theorem lifted (os : Os) (started : os.Started) (H : Type) (enc : TypeId × Value → H) :
    ReturnsInHanded {} Try.checked os 5 .any (Rows.fnExactApplyOpSpec.pre6 enc Try.prog Try.f5 Rows.fnExactApplyOpRow.domain false) (Rows.fnExactApplyOpSpec.post enc Try.prog Try.f5 false true false false) := by
  refine returnsInHanded_of_change (C := Try.checked) kit.own started (by kernel_rfl) Try.func5
    (ChangeSpec.witness6 (enc := enc) (C := Try.checked) false ⟨#[], #[.agg #[.slice none 0 0, .slice none 0 0], .agg #[.int .i64 0, .int .i64 0, .int .i64 0, .int .i64 0, .int .i64 0, .int .i64 0]], []⟩ 8 (by kernel_rfl) (by kernel_rfl) (by kernel_rfl) (by kernel_rfl)) ?_
  intro W base args ds gs before hval0 hW hcnd _
  have hval : ∀ (j : Nat) t v, Try.f5.params[j]? = some t → args[j]? = some v → Value.okWide Try.prog W .any base t v := hval0
  have hW' := hW
  obtain ⟨p, q, hA0, hV, rfl, hfz, hnd⟩ := hW
  have hA : DataW.TrodAll enc Try.prog W 0 (fun _ => true) true Try.f5.params.toList args.toList ds p := hA0
  rw [Try.params5] at hA hval
  obtain ⟨v0, vs0, d0, ds0, p0, q0, hargs, rfl, rfl, h0, r0⟩ := trodAll_cons hA
  obtain ⟨v1, vs1, d1, ds1, p1, q1, rfl, rfl, rfl, h1, r1⟩ := trodAll_cons r0
  obtain ⟨rfl, rfl, rfl⟩ := trodAll_nil r1
  obtain rfl : args = #[v0, v1] := by cases args; simp_all
  obtain ⟨rfl, rfl⟩ := trodVars_none hV
  have k0 := h0
  have lt0 : ∀ x ∈ p0, x.block < W.heap.size := by obtain ⟨m, hm⟩ := k0; exact DataW.trod_lt m _ _ _ hm
  obtain ⟨a0, c0, L0, b0, e0, M0, rfl, wa0, wb0, wl0, wm0⟩ := kit.open_machine (hval 0 64 v0 rfl rfl) h0 lt0
  obtain ⟨x1_0, x1_1, x1_2, x1_3, x1_4, x1_5, rfl, rfl, rfl, w1⟩ := kit.open_six Try.underlying65 (by kernel_rfl) (by kernel_rfl) Try.underlying3 (by simp) (hval 1 65 v1 rfl rfl) h1
  clear hA0 hval0
  refine (walk a0 c0 L0 b0 e0 M0 x1_0 x1_1 x1_2 x1_3 x1_4 x1_5 W wa0 wb0 wl0 wm0 w1).mono fun e W' ⟨he, bel⟩ => ?_
  subst he
  exact ⟨_, rfl, _, _, _, [], _, [], hW', trodAll_mk1 (shut_bool Try.underlying4 _), (trodAll_cons_mk (Below.trod kit.laidOut (by kernel_rfl) (of_decide_eq_true (by kernel_rfl)) k0 bel lt0) (trodAll_cons_mk (kit.shut_six Try.underlying65 (by kernel_rfl) (by kernel_rfl) Try.underlying3 (by simp) w1) trodAll_mk0)), rfl, bel.frame _, fun h => by cases h⟩

theorem proved : Rows.FnExactApplyOpSaid :=
  OpenClaim.holds_of_wide 5 Try.f5 rfl rfl rfl rfl rfl rfl rfl ⟨rfl, rfl, rfl, rfl, rfl⟩ rfl rfl rfl rfl rfl (by kernel_rfl) Try.func5 (by kernel_rfl)
    (of_decide_eq_true (by kernel_rfl)) (by unfold Func.isWrapper; first | (rw [if_pos (by decide +kernel)]; kernel_rfl) | (rw [if_neg (by decide +kernel)]; exact ⟨rfl, rfl⟩))
    (fun os started H enc _ => lifted os started H enc)
end Go.Proofs.Ytbnepdecfnhgoaa.fnExactApplyOp
