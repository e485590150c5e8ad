/-
  For every Config (the law passes over those with more than 2^20 elements), impl's FormatConfig returns the same string as the specification's and leaves its argument as it was: the law returns true and changes nothing that was there. The card ties the library's listed tables to the program's text. No condition.
-/
import Derived.Test.YtmojigimlhjphaaDoorS8Fmt
import Derived.Deep.RegionWith
import Derived.Deep.DeepCutAuto
import Derived.Test.YtmojigimlhjphaaDoorKitLaid
import Derived.Test.YtmojigimlhjphaaDoorCards
import Derived.Test.YtmojigimlhjphaaDoorTie
namespace Go.Proofs.YtmojigimlhjphaaDoor.fnExactFormatConfig
open Go.ChangeShapes Go.WideShapes Go.ChangeAt Go.RowKit
open Go.ChangeMaps (open_string shut_string)
set_option linter.unusedVariables false

set_option maxRecDepth 100000 in
set_option maxHeartbeats 16000000 in
theorem walk (x0 y0 : Int) (a0 : Option Addr) (c0 : Nat) (L0 : List Int) (b0 : Option Addr) (d0 : Nat) (M0 : List Int) (w : World) (wa0 : kit.At w a0 L0) (wb0 : kit.At w b0 M0) (wl0 : L0.length ≤ maxLen) (wm0 : M0.length ≤ maxLen) (hT : kit.Tab w) :
    Calls Tryd.prog 3 #[.agg #[.int .i64 x0, .int .i64 y0, .slice a0 L0.length c0, .slice b0 M0.length d0]] w fun e w' => e = .returned (.bool true) ∧ Below w.heap.size w w' := by
  unfold maxLen at wl0 wm0
  have HA0' := Lib.hid (kit.at_low wa0)
  have HM0' := Lib.hid (kit.at_low wb0)
  have HA0 := Lib.hid wa0
  have HM0 := Lib.hid wb0
  clear wa0 wb0
  have HB := Lib.hid (Below.refl w.heap.size w)
  have hz : w.heap.size ≤ w.heap.size := Nat.le_refl _
  go_enter Tryd.func3, Tryd.ntmps3
  go_wp2_with fail
  obtain ⟨w1, hw1⟩ : ∃ W, W = w.alloc (.cells #[.int .i64 x0, .int .i64 y0, .slice a0 L0.length c0, .slice b0 M0.length d0] 24) := ⟨_, rfl⟩
  rw [← hw1]
  obtain ⟨pw1, epw1⟩ : ∃ p, p = w.heap.size := ⟨_, rfl⟩
  rw [← epw1]
  have Epw1 := Lib.hid epw1
  have epw1' := Epw1.out
  clear epw1
  have xpw1_0 : w1.cell? ⟨pw1, 0, none⟩ = some (.int .i64 x0) := by rw [hw1, epw1', World.cell?_alloc_at _ _ _ _ rfl]; rfl
  have xpw1_1 : w1.cell? ⟨pw1, 1, none⟩ = some (.int .i64 y0) := by rw [hw1, epw1', World.cell?_alloc_at _ _ _ _ rfl]; rfl
  have xpw1_2 : w1.cell? ⟨pw1, 2, none⟩ = some (.slice a0 L0.length c0) := by rw [hw1, epw1', World.cell?_alloc_at _ _ _ _ rfl]; rfl
  have xpw1_3 : w1.cell? ⟨pw1, 3, none⟩ = some (.slice b0 M0.length d0) := by rw [hw1, epw1', World.cell?_alloc_at _ _ _ _ rfl]; rfl
  have hpw1 : pw1 < w1.heap.size := by rw [hw1, epw1', World.size_alloc]; exact Nat.lt_succ_self _
  have hb : Below w.heap.size w w1 := by rw [hw1]; exact (Below.refl _ _).alloc (Nat.le_refl _) _
  have Sw1 := Lib.hid (show w1.heap.size = w.heap.size + 1 by rw [hw1, World.size_alloc])
  replace HB := Lib.hid (HB.out.trans (hb.mono hz))
  replace hz := Nat.le_trans hz hb.size
  have HZw1 := Lib.hid hb.size
  replace HA0 := Lib.hid (HA0.out.later hb)
  replace HM0 := Lib.hid (HM0.out.later hb)
  clear hb
  clear epw1' hw1
  refine (kit.szConfig x0 y0 a0 L0.length c0 b0 M0.length d0 (1048576) w1 (by omega) (by omega) (by omega) (by omega)).mono ?_
  rintro e w2 ⟨rfl, hb⟩
  replace xpw1_0 := (hb.cell (p := ⟨pw1, 0, none⟩) hpw1).trans xpw1_0
  replace xpw1_1 := (hb.cell (p := ⟨pw1, 1, none⟩) hpw1).trans xpw1_1
  replace xpw1_2 := (hb.cell (p := ⟨pw1, 2, none⟩) hpw1).trans xpw1_2
  replace xpw1_3 := (hb.cell (p := ⟨pw1, 3, none⟩) hpw1).trans xpw1_3
  replace hpw1 := Nat.lt_of_lt_of_le hpw1 hb.size
  replace HB := Lib.hid (HB.out.trans (hb.mono hz))
  replace hz := Nat.le_trans hz hb.size
  have HZw2 := Lib.hid hb.size
  replace HA0 := Lib.hid (HA0.out.later hb)
  replace HM0 := Lib.hid (HM0.out.later hb)
  clear hb
  by_cases hs1 : ¬ (L0.length : Int) + (M0.length : Int) ≤ 1048576
  · rw [show kit.left (1048576) L0.length M0.length = -1 from if_neg hs1]
    go_wp2_with fail
    go_ret
    exact ⟨rfl, HB.out⟩
  replace hs1 := Decidable.not_not.1 hs1
  rw [show kit.left (1048576) L0.length M0.length = 1048576 - (L0.length : Int) - (M0.length : Int) from if_pos hs1]
  go_wp2_with fail
  refine (kit.toConfig x0 y0 a0 c0 L0 b0 d0 M0 w2 (by omega) (by omega) HA0.out HM0.out).mono ?_
  rintro e w3 ⟨u4I, u4S, rfl, hoI, hoS, hb, hap⟩
  obtain ⟨yr5, qr5, rfl⟩ := hoI.shape
  obtain ⟨yr6, qr6, rfl⟩ := hoS.shape
  have HPr5 := Lib.hid hap
  clear hap
  replace xpw1_0 := (hb.cell (p := ⟨pw1, 0, none⟩) hpw1).trans xpw1_0
  replace xpw1_1 := (hb.cell (p := ⟨pw1, 1, none⟩) hpw1).trans xpw1_1
  replace xpw1_2 := (hb.cell (p := ⟨pw1, 2, none⟩) hpw1).trans xpw1_2
  replace xpw1_3 := (hb.cell (p := ⟨pw1, 3, none⟩) hpw1).trans xpw1_3
  replace hpw1 := Nat.lt_of_lt_of_le hpw1 hb.size
  replace HB := Lib.hid (HB.out.trans (hb.mono hz))
  replace hz := Nat.le_trans hz hb.size
  have HZw3 := Lib.hid hb.size
  replace HA0 := Lib.hid (HA0.out.later hb)
  replace HM0 := Lib.hid (HM0.out.later hb)
  have HOr5 := Lib.hid hoI
  have HUr5 := Lib.hid hoI.block
  clear hoI
  have HOr6 := Lib.hid hoS
  have HUr6 := Lib.hid hoS.block
  clear hoS
  clear hb
  go_wp2_with fail
  refine (kit.specFormatConfig x0 y0 _ _ (.slice yr5 L0.length qr5) (.slice yr6 M0.length qr6) L0 M0 w3 (by omega) (by omega) HOr5.out HOr6.out).mono ?_
  rintro e w7 ⟨he, hb⟩
  try unfold kit.str at he
  generalize hT1 : (⟨(kit.fmtC x0 y0 L0 M0).toArray⟩ : ByteArray) = T1 at he
  have HT1 := Lib.hid hT1
  clear hT1
  subst he
  replace xpw1_0 := (hb.cell (p := ⟨pw1, 0, none⟩) hpw1).trans xpw1_0
  replace xpw1_1 := (hb.cell (p := ⟨pw1, 1, none⟩) hpw1).trans xpw1_1
  replace xpw1_2 := (hb.cell (p := ⟨pw1, 2, none⟩) hpw1).trans xpw1_2
  replace xpw1_3 := (hb.cell (p := ⟨pw1, 3, none⟩) hpw1).trans xpw1_3
  replace hpw1 := Nat.lt_of_lt_of_le hpw1 hb.size
  replace HB := Lib.hid (HB.out.trans (hb.mono hz))
  replace hz := Nat.le_trans hz hb.size
  have HZw7 := Lib.hid hb.size
  replace HOr5 := Lib.hid (HOr5.out.later hb)
  replace HOr6 := Lib.hid (HOr6.out.later hb)
  replace HA0 := Lib.hid (HA0.out.later hb)
  replace HM0 := Lib.hid (HM0.out.later hb)
  clear hb
  go_wp2_with fail
  refine (kit.toConfig x0 y0 a0 c0 L0 b0 d0 M0 w7 (by omega) (by omega) HA0.out HM0.out).mono ?_
  rintro e w8 ⟨u9I, u9S, rfl, hoI, hoS, hb, hap⟩
  obtain ⟨yr10, qr10, rfl⟩ := hoI.shape
  obtain ⟨yr11, qr11, rfl⟩ := hoS.shape
  have HPr10 := Lib.hid hap
  clear hap
  replace xpw1_0 := (hb.cell (p := ⟨pw1, 0, none⟩) hpw1).trans xpw1_0
  replace xpw1_1 := (hb.cell (p := ⟨pw1, 1, none⟩) hpw1).trans xpw1_1
  replace xpw1_2 := (hb.cell (p := ⟨pw1, 2, none⟩) hpw1).trans xpw1_2
  replace xpw1_3 := (hb.cell (p := ⟨pw1, 3, none⟩) hpw1).trans xpw1_3
  replace hpw1 := Nat.lt_of_lt_of_le hpw1 hb.size
  replace HB := Lib.hid (HB.out.trans (hb.mono hz))
  replace hz := Nat.le_trans hz hb.size
  have HZw8 := Lib.hid hb.size
  replace HOr5 := Lib.hid (HOr5.out.later hb)
  replace HOr6 := Lib.hid (HOr6.out.later hb)
  replace HA0 := Lib.hid (HA0.out.later hb)
  replace HM0 := Lib.hid (HM0.out.later hb)
  have HOr10 := Lib.hid hoI
  have HUr10 := Lib.hid hoI.block
  clear hoI
  have HOr11 := Lib.hid hoS
  have HUr11 := Lib.hid hoS.block
  clear hoS
  clear hb
  go_wp2_with fail
  obtain ⟨w12, hw12⟩ : ∃ W, W = w8.alloc (.cells #[.int .i64 x0, .int .i64 y0, .slice yr10 L0.length qr10, .slice yr11 M0.length qr11] 27) := ⟨_, rfl⟩
  rw [← hw12]
  obtain ⟨pw12, epw12⟩ : ∃ p, p = w8.heap.size := ⟨_, rfl⟩
  rw [← epw12]
  have Epw12 := Lib.hid epw12
  have epw12' := Epw12.out
  clear epw12
  have xpw12_0 : w12.cell? ⟨pw12, 0, none⟩ = some (.int .i64 x0) := by rw [hw12, epw12', World.cell?_alloc_at _ _ _ _ rfl]; rfl
  have xpw12_1 : w12.cell? ⟨pw12, 1, none⟩ = some (.int .i64 y0) := by rw [hw12, epw12', World.cell?_alloc_at _ _ _ _ rfl]; rfl
  have xpw12_2 : w12.cell? ⟨pw12, 2, none⟩ = some (.slice yr10 L0.length qr10) := by rw [hw12, epw12', World.cell?_alloc_at _ _ _ _ rfl]; rfl
  have xpw12_3 : w12.cell? ⟨pw12, 3, none⟩ = some (.slice yr11 M0.length qr11) := by rw [hw12, epw12', World.cell?_alloc_at _ _ _ _ rfl]; rfl
  have hpw12 : pw12 < w12.heap.size := by rw [hw12, epw12', World.size_alloc]; exact Nat.lt_succ_self _
  have hb : Below w8.heap.size w8 w12 := by rw [hw12]; exact (Below.refl _ _).alloc (Nat.le_refl _) _
  have Sw12 := Lib.hid (show w12.heap.size = w8.heap.size + 1 by rw [hw12, World.size_alloc])
  replace xpw1_0 := (hb.cell (p := ⟨pw1, 0, none⟩) hpw1).trans xpw1_0
  replace xpw1_1 := (hb.cell (p := ⟨pw1, 1, none⟩) hpw1).trans xpw1_1
  replace xpw1_2 := (hb.cell (p := ⟨pw1, 2, none⟩) hpw1).trans xpw1_2
  replace xpw1_3 := (hb.cell (p := ⟨pw1, 3, none⟩) hpw1).trans xpw1_3
  replace hpw1 := Nat.lt_of_lt_of_le hpw1 hb.size
  replace HB := Lib.hid (HB.out.trans (hb.mono hz))
  replace hz := Nat.le_trans hz hb.size
  have HZw12 := Lib.hid hb.size
  replace HOr5 := Lib.hid (HOr5.out.later hb)
  replace HOr6 := Lib.hid (HOr6.out.later hb)
  replace HOr10 := Lib.hid (HOr10.out.later hb)
  replace HOr11 := Lib.hid (HOr11.out.later hb)
  replace HA0 := Lib.hid (HA0.out.later hb)
  replace HM0 := Lib.hid (HM0.out.later hb)
  clear hb
  clear epw12' hw12
  refine (kit.implFormatConfig x0 y0 _ _ (.slice yr10 L0.length qr10) (.slice yr11 M0.length qr11) L0 M0 w12 (by omega) (by omega) HOr10.out HOr11.out (hT.below HB.out)).mono ?_
  rintro e w13 ⟨he, hb⟩
  try unfold kit.str at he
  rw [HT1.out] at he
  subst he
  replace xpw1_0 := (hb.cell (p := ⟨pw1, 0, none⟩) hpw1).trans xpw1_0
  replace xpw1_1 := (hb.cell (p := ⟨pw1, 1, none⟩) hpw1).trans xpw1_1
  replace xpw1_2 := (hb.cell (p := ⟨pw1, 2, none⟩) hpw1).trans xpw1_2
  replace xpw1_3 := (hb.cell (p := ⟨pw1, 3, none⟩) hpw1).trans xpw1_3
  replace hpw1 := Nat.lt_of_lt_of_le hpw1 hb.size
  replace xpw12_0 := (hb.cell (p := ⟨pw12, 0, none⟩) hpw12).trans xpw12_0
  replace xpw12_1 := (hb.cell (p := ⟨pw12, 1, none⟩) hpw12).trans xpw12_1
  replace xpw12_2 := (hb.cell (p := ⟨pw12, 2, none⟩) hpw12).trans xpw12_2
  replace xpw12_3 := (hb.cell (p := ⟨pw12, 3, none⟩) hpw12).trans xpw12_3
  replace hpw12 := Nat.lt_of_lt_of_le hpw12 hb.size
  replace HB := Lib.hid (HB.out.trans (hb.mono hz))
  replace hz := Nat.le_trans hz hb.size
  have HZw13 := Lib.hid hb.size
  replace HOr5 := Lib.hid (HOr5.out.later hb)
  replace HOr6 := Lib.hid (HOr6.out.later hb)
  replace HOr10 := Lib.hid (HOr10.out.later hb)
  replace HOr11 := Lib.hid (HOr11.out.later hb)
  replace HA0 := Lib.hid (HA0.out.later hb)
  replace HM0 := Lib.hid (HM0.out.later hb)
  clear hb
  go_wp2_with fail
  go_upto_region 10 with (fail)
  go_cut [26] (fun b wx => b = .bool false ∧ Below w13.heap.size w13 wx)
  case first =>
    have hW0 := (Below.refl w13.heap.size w13).drew
    go_region_with (first | (go_at_call 7; (with_reducible refine (kit.toConfig x0 y0 a0 c0 L0 b0 d0 M0 _ (by omega) (by omega) (HA0.out.later hW0) (HM0.out.later hW0)).mono ?_); rintro e wa ⟨uI, uS, rfl, hoI, hoS, hb, hap⟩; obtain ⟨ya, qa, rfl⟩ := hoI.shape; obtain ⟨yb, qb, rfl⟩ := hoS.shape; have hB0 := hW0.trans (hb.mono hW0.size); have xpw1_0 := (hB0.cell (p := ⟨pw1, 0, none⟩) hpw1).trans xpw1_0; have xpw1_1 := (hB0.cell (p := ⟨pw1, 1, none⟩) hpw1).trans xpw1_1; have xpw1_2 := (hB0.cell (p := ⟨pw1, 2, none⟩) hpw1).trans xpw1_2; have xpw1_3 := (hB0.cell (p := ⟨pw1, 3, none⟩) hpw1).trans xpw1_3; have xpw12_0 := (hB0.cell (p := ⟨pw12, 0, none⟩) hpw12).trans xpw12_0; have xpw12_1 := (hB0.cell (p := ⟨pw12, 1, none⟩) hpw12).trans xpw12_1; have xpw12_2 := (hB0.cell (p := ⟨pw12, 2, none⟩) hpw12).trans xpw12_2; have xpw12_3 := (hB0.cell (p := ⟨pw12, 3, none⟩) hpw12).trans xpw12_3; clear hb) | (go_at_call 9; refine (kit.eqConfigO x0 y0 _ _ (.slice yr10 L0.length qr10) (.slice yr11 M0.length qr11) L0 M0 x0 y0 _ _ (.slice ya L0.length qa) (.slice yb M0.length qb) L0 M0 _ (by omega) (by omega) (HOr10.out.later hB0) (HOr11.out.later hB0) (by omega) (by omega) hoI hoS).mono ?_; rintro e wz ⟨he, hb⟩; rw [decide_eq_true ⟨rfl, rfl, rfl, rfl⟩] at he; subst he; have hB9 := hB0.trans (hb.mono hB0.size); clear hb))
    all_goals
      go_wp2_with fail
      go_meet
      exact ⟨rfl, hB9⟩
  case rest =>
    obtain ⟨rfl, hb⟩ := hcut
    replace xpw1_0 := (hb.cell (p := ⟨pw1, 0, none⟩) hpw1).trans xpw1_0
    replace xpw1_1 := (hb.cell (p := ⟨pw1, 1, none⟩) hpw1).trans xpw1_1
    replace xpw1_2 := (hb.cell (p := ⟨pw1, 2, none⟩) hpw1).trans xpw1_2
    replace xpw1_3 := (hb.cell (p := ⟨pw1, 3, none⟩) hpw1).trans xpw1_3
    replace hpw1 := Nat.lt_of_lt_of_le hpw1 hb.size
    replace xpw12_0 := (hb.cell (p := ⟨pw12, 0, none⟩) hpw12).trans xpw12_0
    replace xpw12_1 := (hb.cell (p := ⟨pw12, 1, none⟩) hpw12).trans xpw12_1
    replace xpw12_2 := (hb.cell (p := ⟨pw12, 2, none⟩) hpw12).trans xpw12_2
    replace xpw12_3 := (hb.cell (p := ⟨pw12, 3, none⟩) hpw12).trans xpw12_3
    replace hpw12 := Nat.lt_of_lt_of_le hpw12 hb.size
    replace HB := Lib.hid (HB.out.trans (hb.mono hz))
    replace hz := Nat.le_trans hz hb.size
    have HZwc := Lib.hid hb.size
    replace HOr5 := Lib.hid (HOr5.out.later hb)
    replace HOr6 := Lib.hid (HOr6.out.later hb)
    replace HOr10 := Lib.hid (HOr10.out.later hb)
    replace HOr11 := Lib.hid (HOr11.out.later hb)
    replace HA0 := Lib.hid (HA0.out.later hb)
    replace HM0 := Lib.hid (HM0.out.later hb)
    clear hb
    obtain ⟨w14, rfl⟩ : ∃ W, W = wc := ⟨_, rfl⟩
    go_wp2_with fail
    go_ret
    exact ⟨rfl, HB.out⟩
set_option maxRecDepth 100000 in
theorem contract (H : Type) (enc : TypeId × Value → H) (W : World) (base : Nat) (args : Array Value) (ds gs : List (DataW H)) (before : List MemPlace)
    (hval0 : ∀ (j : Nat) t v, Tryd.f3.params[j]? = some t → args[j]? = some v → Value.okWide Tryd.prog W .any base t v)
    (hW : DataW.Whole enc Tryd.prog Tryd.f3.params.toList Rows.fnExactFormatConfigSpec.vars false W args.toList ds gs before) (hL : laidMetH Tryd.prog Rows.fnExactFormatConfigRow.laid W) :
    Calls Tryd.prog 3 args W fun e W' => ∃ v, e = .returned v ∧ Rows.fnExactFormatConfigSpec.post enc Tryd.prog Tryd.f3 false true false false W args v W' := by
  have hT : kit.Tab W := kit.tab_of_laid (by kernel_rfl) hL
  have hval : ∀ (j : Nat) t v, Tryd.f3.params[j]? = some t → args[j]? = some v → Value.okWide Tryd.prog W .any base t v := hval0
  have hW' := hW
  obtain ⟨p, q, hA0, hV, rfl, hfz, hnd⟩ := hW
  have hA : DataW.TrodAll enc Tryd.prog W 0 (fun _ => true) true Tryd.f3.params.toList args.toList ds p := hA0
  rw [Tryd.params3] at hA hval
  obtain ⟨v0, vs0, d0, ds0, p0, q0, hargs, rfl, rfl, h0, r0⟩ := trodAll_cons hA
  obtain ⟨rfl, rfl, rfl⟩ := trodAll_nil r0
  obtain rfl : args = #[v0] := by cases args; simp_all
  obtain ⟨rfl, rfl⟩ := trodVars_none hV
  have k0 := h0
  have lt0 : ∀ x ∈ p0, x.block < W.heap.size := by obtain ⟨m, hm⟩ := k0; exact DataW.trod_lt m _ _ _ hm
  obtain ⟨x0, y0, a0, c0, L0, b0, e0, M0, rfl, wa0, wb0, wl0, wm0⟩ := kit.open_config (hval 0 24 v0 rfl rfl) h0 lt0
  clear hA0 hval0
  refine (walk x0 y0 a0 c0 L0 b0 e0 M0 W wa0 wb0 wl0 wm0 hT).mono fun e W' ⟨he, bel⟩ => ?_
  subst he
  exact ⟨_, rfl, _, _, _, [], _, [], hW', trodAll_mk1 (shut_bool Tryd.underlying4 _), (trodAll_cons_mk (Below.trod kit.laidOut (by kernel_rfl) (of_decide_eq_true (by kernel_rfl)) k0 bel lt0) trodAll_mk0), rfl, bel.frame _, fun h => by cases h⟩

noncomputable def laidWorld (os : Os) : World :=
  { World.holding Tryd.prog os ⟨#[], #[], []⟩ with heap := (kit.laidCells (kit.laidCells (kit.laidCells (World.holding Tryd.prog os ⟨#[], #[], []⟩).heap 4 Rows.laid_math_bits_deBruijn32tab) 5 Rows.laid_math_bits_deBruijn64tab) 3 Rows.laid_internal_strconv_uint64pow10) }
theorem laid_met (os : Os) : laidMet Tryd.prog Rows.fnExactFormatConfigRow.laid ((laidWorld os).forCall (fun _ _ => 0) ⟨#[], #[.agg #[.int .i64 0, .int .i64 0, .slice none 0 0, .slice none 0 0]], []⟩).memory :=
  laidMet_of_run' 8 (by kernel_rfl) (by kernel_rfl)
theorem reads (os : Os) {H : Type} (enc : TypeId × Value → H) : ∃ places, DataW.whole enc Tryd.prog ((laidWorld os).forCall (fun _ _ => 0) ⟨#[], #[.agg #[.int .i64 0, .int .i64 0, .slice none 0 0, .slice none 0 0]], []⟩).memory Tryd.f3.params.toList Rows.fnExactFormatConfigSpec.vars false (#[.agg #[.int .i64 0, .int .i64 0, .slice none 0 0, .slice none 0 0]] : Array Value).toList 8 = some ([.agg [.lit (.int .i64 0), .lit (.int .i64 0), .nil, .nil]], [], places) :=
  ⟨[], by kernel_rfl⟩
set_option maxRecDepth 100000 in
theorem lifted (os : Os) (started : os.Started) (H : Type) (enc : TypeId × Value → H) (F : Stop.Interp) :
    ReturnsInHanded {} Tryd.checked os 3 .any ((OpenSpec.ofChange Rows.fnExactFormatConfigSpec).preRow enc Tryd.prog Tryd.f3 Rows.fnExactFormatConfigRow.domain false Rows.fnExactFormatConfigRow.laid) (((OpenSpec.ofChange Rows.fnExactFormatConfigSpec).at F).post enc Tryd.prog Tryd.f3 false true false false) := by
  obtain ⟨places, hx⟩ := reads os enc
  refine returnsInHanded_of_row (C := Tryd.checked) (s := OpenSpec.ofChange Rows.fnExactFormatConfigSpec) kit.own started (by kernel_rfl) Tryd.func3
    (witness_row_at (enc := enc) (C := Tryd.checked) false (laidWorld os) #[.agg #[.int .i64 0, .int .i64 0, .slice none 0 0, .slice none 0 0]] rfl (by kernel_rfl) (by kernel_rfl) (by kernel_rfl)
      (OpenSpec.preRow_of_cond 8 hx (by kernel_rfl) (fun k hk => by cases hk) (by kernel_rfl) (laid_met os))) ?_
  intro W base args ds gs before hval hW _ _ _ hL _ _
  exact contract H enc W base args ds gs before hval hW hL
theorem said : Rows.FnExactFormatConfigSaid :=
  OpenClaim.holds_of_cond 3 Tryd.f3 rfl rfl rfl rfl rfl rfl rfl ⟨rfl, rfl, rfl, rfl, rfl⟩ rfl rfl rfl rfl rfl (by kernel_rfl) Tryd.func3 (by kernel_rfl)
    (of_decide_eq_true (by kernel_rfl)) (by unfold Func.isWrapper; first | (rw [if_pos (by decide +kernel)]; kernel_rfl) | (rw [if_neg (by decide +kernel)]; exact ⟨rfl, rfl⟩))
    (fun os started H enc _ F => by rw [OpenClaim.pre_eq_preRow]; exact lifted os started H enc F)
theorem plain (f : FuncId) (fn : Func) (hf : Tryd.pinned.checked.prog.funcNamed "loop.example/g01926/laws.FnExactFormatConfig" = some f) (hfn : Tryd.pinned.checked.prog.funcs[f]? = some fn) :
    false = Tryd.pinned.checked.prog.looks [] ∧ ∀ (j : Nat) t, fn.params[j]? = some t → Tryd.pinned.checked.prog.wantsStandIn t = false := by
  obtain rfl : f = 3 := Option.some.inj ((show Tryd.prog.funcNamed "loop.example/g01926/laws.FnExactFormatConfig" = some 3 by kernel_rfl).symm.trans hf) |>.symm
  obtain rfl : fn = Tryd.f3 := (Option.some.inj (Tryd.func3.symm.trans hfn)).symm
  refine ⟨by kernel_rfl, fun j t ht => ?_⟩
  rw [Tryd.params3] at ht
  have hm := Array.mem_of_getElem? ht
  have hall : ∀ t ∈ (#[24] : Array TypeId), Tryd.prog.wantsStandIn t = false := by
    intro t ht
    simp only [List.mem_toArray, List.mem_cons, List.not_mem_nil, or_false] at ht
    subst ht; exact (show Tryd.prog.wantsStandIn 24 = false by kernel_rfl)
  exact hall t hm
theorem proved : Rows.FnExactFormatConfigCardSaid :=
  Claim7.holds_tied_plain_at .later [] _ _ _ _ said (fun _ h => by cases h) (by kernel_rfl) (fun _ h => by cases h) fnExactFormatConfig_row_tie rfl ⟨rfl, rfl⟩ (by kernel_rfl) rfl plain (by kernel_rfl)
end Go.Proofs.YtmojigimlhjphaaDoor.fnExactFormatConfig
