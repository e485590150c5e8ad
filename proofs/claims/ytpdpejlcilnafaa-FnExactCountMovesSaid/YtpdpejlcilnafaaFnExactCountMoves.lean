/-
  For every two []int (the law passes over those with more than 2^20 elements), impl's CountMoves returns the same number as the specification's and leaves its arguments as they were: the law returns true and changes nothing that was there. No other condition.
-/
import Derived.Test.YtpdpejlcilnafaaS9Impl
import Derived.Test.YtpdpejlcilnafaaS9Spec2
import Derived.Test.YtpdpejlcilnafaaIntRow
import Derived.Deep.RegionWith
import Derived.Deep.DeepCutAuto
namespace Go.Proofs.Ytpdpejlcilnafaa.fnExactCountMoves
open Go.ChangeShapes Go.WideShapes Go.ChangeAt Go.RowKit
open Go.ChangeMaps (open_string shut_string)
set_option linter.unusedVariables false

set_option maxRecDepth 100000 in
set_option maxHeartbeats 16000000 in
theorem walk (a0 : Option Addr) (c0 : Nat) (L0 : List Int) (a1 : Option Addr) (c1 : Nat) (L1 : List Int) (w : World) (wa0 : kit.At w a0 L0) (wl0 : L0.length ≤ maxLen) (wa1 : kit.At w a1 L1) (wl1 : L1.length ≤ maxLen) :
    Calls Try.prog 10 #[.slice a0 L0.length c0, .slice a1 L1.length c1] w fun e w' => e = .returned (.bool true) ∧ Below w.heap.size w w' := by
  unfold maxLen at wl0
  have HA0' := Lib.hid (kit.at_low wa0)
  have HA0 := Lib.hid wa0
  clear wa0
  unfold maxLen at wl1
  have HA1' := Lib.hid (kit.at_low wa1)
  have HA1 := Lib.hid wa1
  clear wa1
  have HB := Lib.hid (Below.refl w.heap.size w)
  have hz : w.heap.size ≤ w.heap.size := Nat.le_refl _
  by_cases hbiga0 : L0.length > 1048576
  · go_enter Try.func10, Try.ntmps10
    go_wp2_with fail
    go_ret
    exact ⟨rfl, Below.refl _ _⟩
  by_cases hbiga1 : L1.length > 1048576
  · go_enter Try.func10, Try.ntmps10
    go_wp2_with fail
    go_ret
    exact ⟨rfl, Below.refl _ _⟩
  go_enter Try.func10, Try.ntmps10
  go_wp2_with fail
  refine (kit.toIntS_any a0 c0 L0 w (by omega) HA0.out).mono ?_
  rintro e w1 ⟨u2, rfl, ho, hb⟩
  obtain ⟨yr3, qr3, rfl⟩ := ho.shape
  replace HB := Lib.hid (HB.out.trans (hb.mono hz))
  replace hz := Nat.le_trans hz hb.size
  have HZw1 := Lib.hid hb.size
  replace HA0 := Lib.hid (HA0.out.later hb)
  replace HA1 := Lib.hid (HA1.out.later hb)
  have HOr3 := Lib.hid ho
  have HUr3 := Lib.hid ho.block
  clear ho
  clear hb
  go_wp2_with fail
  refine (kit.toIntS_any a1 c1 L1 w1 (by omega) HA1.out).mono ?_
  rintro e w4 ⟨u5, rfl, ho, hb⟩
  obtain ⟨yr6, qr6, rfl⟩ := ho.shape
  replace HB := Lib.hid (HB.out.trans (hb.mono hz))
  replace hz := Nat.le_trans hz hb.size
  have HZw4 := Lib.hid hb.size
  replace HOr3 := Lib.hid (HOr3.out.later hb)
  replace HA0 := Lib.hid (HA0.out.later hb)
  replace HA1 := Lib.hid (HA1.out.later hb)
  have HOr6 := Lib.hid ho
  have HUr6 := Lib.hid ho.block
  clear ho
  clear hb
  go_wp2_with fail
  refine (kit.specCountMoves _ (.slice yr3 L0.length qr3) L0 _ (.slice yr6 L1.length qr6) L1 w4 (by omega) HOr3.out (by omega) HOr6.out).mono ?_
  rintro e w7 ⟨he, hb⟩
  generalize hT1 : ((kit.without L1 L0).length : Int) = T1 at he
  have HT1 := Lib.hid hT1
  clear hT1
  subst he
  replace HB := Lib.hid (HB.out.trans (hb.mono hz))
  replace hz := Nat.le_trans hz hb.size
  have HZw7 := Lib.hid hb.size
  replace HOr3 := Lib.hid (HOr3.out.later hb)
  replace HOr6 := Lib.hid (HOr6.out.later hb)
  replace HA0 := Lib.hid (HA0.out.later hb)
  replace HA1 := Lib.hid (HA1.out.later hb)
  clear hb
  go_wp2_with fail
  refine (kit.toIntS_any a0 c0 L0 w7 (by omega) HA0.out).mono ?_
  rintro e w8 ⟨u9, rfl, ho, hb⟩
  obtain ⟨yr10, qr10, rfl⟩ := ho.shape
  replace HB := Lib.hid (HB.out.trans (hb.mono hz))
  replace hz := Nat.le_trans hz hb.size
  have HZw8 := Lib.hid hb.size
  replace HOr3 := Lib.hid (HOr3.out.later hb)
  replace HOr6 := Lib.hid (HOr6.out.later hb)
  replace HA0 := Lib.hid (HA0.out.later hb)
  replace HA1 := Lib.hid (HA1.out.later hb)
  have HOr10 := Lib.hid ho
  have HUr10 := Lib.hid ho.block
  clear ho
  clear hb
  go_wp2_with fail
  refine (kit.toIntS_any a1 c1 L1 w8 (by omega) HA1.out).mono ?_
  rintro e w11 ⟨u12, rfl, ho, hb⟩
  obtain ⟨yr13, qr13, rfl⟩ := ho.shape
  replace HB := Lib.hid (HB.out.trans (hb.mono hz))
  replace hz := Nat.le_trans hz hb.size
  have HZw11 := Lib.hid hb.size
  replace HOr3 := Lib.hid (HOr3.out.later hb)
  replace HOr6 := Lib.hid (HOr6.out.later hb)
  replace HOr10 := Lib.hid (HOr10.out.later hb)
  replace HA0 := Lib.hid (HA0.out.later hb)
  replace HA1 := Lib.hid (HA1.out.later hb)
  have HOr13 := Lib.hid ho
  have HUr13 := Lib.hid ho.block
  clear ho
  clear hb
  go_wp2_with fail
  refine (kit.implCountMoves _ (.slice yr10 L0.length qr10) L0 _ (.slice yr13 L1.length qr13) L1 w11 (by omega) HOr10.out (by omega) HOr13.out).mono ?_
  rintro e w14 ⟨he, hb⟩
  rw [HT1.out] at he
  subst he
  replace HB := Lib.hid (HB.out.trans (hb.mono hz))
  replace hz := Nat.le_trans hz hb.size
  have HZw14 := Lib.hid hb.size
  replace HOr3 := Lib.hid (HOr3.out.later hb)
  replace HOr6 := Lib.hid (HOr6.out.later hb)
  replace HOr10 := Lib.hid (HOr10.out.later hb)
  replace HOr13 := Lib.hid (HOr13.out.later hb)
  replace HA0 := Lib.hid (HA0.out.later hb)
  replace HA1 := Lib.hid (HA1.out.later hb)
  clear hb
  go_wp2_with fail
  refine (kit.toIntS_any a0 c0 L0 w14 (by omega) HA0.out).mono ?_
  rintro e w15 ⟨u16, rfl, ho, hb⟩
  obtain ⟨yr17, qr17, rfl⟩ := ho.shape
  replace HB := Lib.hid (HB.out.trans (hb.mono hz))
  replace hz := Nat.le_trans hz hb.size
  have HZw15 := Lib.hid hb.size
  replace HOr3 := Lib.hid (HOr3.out.later hb)
  replace HOr6 := Lib.hid (HOr6.out.later hb)
  replace HOr10 := Lib.hid (HOr10.out.later hb)
  replace HOr13 := Lib.hid (HOr13.out.later hb)
  replace HA0 := Lib.hid (HA0.out.later hb)
  replace HA1 := Lib.hid (HA1.out.later hb)
  have HOr17 := Lib.hid ho
  have HUr17 := Lib.hid ho.block
  clear ho
  clear hb
  go_wp2_with fail
  refine (kit.eqIntSO _ _ (.slice yr10 L0.length qr10) (.slice yr17 L0.length qr17) L0 L0 w15 (by omega) (by omega) HOr10.out HOr17.out).mono ?_
  rintro e w18 ⟨he, hb⟩
  rw [decide_eq_true rfl] at he
  subst he
  replace HB := Lib.hid (HB.out.trans (hb.mono hz))
  replace hz := Nat.le_trans hz hb.size
  have HZw18 := Lib.hid hb.size
  replace HOr3 := Lib.hid (HOr3.out.later hb)
  replace HOr6 := Lib.hid (HOr6.out.later hb)
  replace HOr10 := Lib.hid (HOr10.out.later hb)
  replace HOr13 := Lib.hid (HOr13.out.later hb)
  replace HOr17 := Lib.hid (HOr17.out.later hb)
  replace HA0 := Lib.hid (HA0.out.later hb)
  replace HA1 := Lib.hid (HA1.out.later hb)
  clear hb
  go_wp2_with fail
  refine (kit.toIntS_any a1 c1 L1 w18 (by omega) HA1.out).mono ?_
  rintro e w19 ⟨u20, rfl, ho, hb⟩
  obtain ⟨yr21, qr21, rfl⟩ := ho.shape
  replace HB := Lib.hid (HB.out.trans (hb.mono hz))
  replace hz := Nat.le_trans hz hb.size
  have HZw19 := Lib.hid hb.size
  replace HOr3 := Lib.hid (HOr3.out.later hb)
  replace HOr6 := Lib.hid (HOr6.out.later hb)
  replace HOr10 := Lib.hid (HOr10.out.later hb)
  replace HOr13 := Lib.hid (HOr13.out.later hb)
  replace HOr17 := Lib.hid (HOr17.out.later hb)
  replace HA0 := Lib.hid (HA0.out.later hb)
  replace HA1 := Lib.hid (HA1.out.later hb)
  have HOr21 := Lib.hid ho
  have HUr21 := Lib.hid ho.block
  clear ho
  clear hb
  go_wp2_with fail
  refine (kit.eqIntSO _ _ (.slice yr13 L1.length qr13) (.slice yr21 L1.length qr21) L1 L1 w19 (by omega) (by omega) HOr13.out HOr21.out).mono ?_
  rintro e w22 ⟨he, hb⟩
  rw [decide_eq_true rfl] at he
  subst he
  replace HB := Lib.hid (HB.out.trans (hb.mono hz))
  replace hz := Nat.le_trans hz hb.size
  have HZw22 := Lib.hid hb.size
  replace HOr3 := Lib.hid (HOr3.out.later hb)
  replace HOr6 := Lib.hid (HOr6.out.later hb)
  replace HOr10 := Lib.hid (HOr10.out.later hb)
  replace HOr13 := Lib.hid (HOr13.out.later hb)
  replace HOr17 := Lib.hid (HOr17.out.later hb)
  replace HOr21 := Lib.hid (HOr21.out.later hb)
  replace HA0 := Lib.hid (HA0.out.later hb)
  replace HA1 := Lib.hid (HA1.out.later hb)
  clear hb
  go_wp2_with fail
  go_ret
  exact ⟨rfl, HB.out⟩
set_option maxRecDepth 100000 in
theorem lifted (os : Os) (started : os.Started) (H : Type) (enc : TypeId × Value → H) :
    ReturnsInHanded {} Try.checked os 10 .any (Rows.fnExactCountMovesSpec.pre6 enc Try.prog Try.f10 Rows.fnExactCountMovesRow.domain false) (Rows.fnExactCountMovesSpec.post enc Try.prog Try.f10 false true false false) := by
  refine returnsInHanded_of_change (C := Try.checked) kit.own started (by kernel_rfl) Try.func10
    (ChangeSpec.witness6 (enc := enc) (C := Try.checked) false ⟨#[], #[.slice none 0 0, .slice none 0 0], []⟩ 8 (by kernel_rfl) (by kernel_rfl) (by kernel_rfl) (by kernel_rfl)) ?_
  intro W base args ds gs before hval0 hW hcnd _
  have hval : ∀ (j : Nat) t v, Try.f10.params[j]? = some t → args[j]? = some v → Value.okWide Try.prog W .any base t v := hval0
  have hW' := hW
  obtain ⟨p, q, hA0, hV, rfl, hfz, hnd⟩ := hW
  have hA : DataW.TrodAll enc Try.prog W 0 (fun _ => true) true Try.f10.params.toList args.toList ds p := hA0
  rw [Try.params10] at hA hval
  obtain ⟨v0, vs0, d0, ds0, p0, q0, hargs, rfl, rfl, h0, r0⟩ := trodAll_cons hA
  obtain ⟨v1, vs1, d1, ds1, p1, q1, rfl, rfl, rfl, h1, r1⟩ := trodAll_cons r0
  obtain ⟨rfl, rfl, rfl⟩ := trodAll_nil r1
  obtain rfl : args = #[v0, v1] := by cases args; simp_all
  obtain ⟨rfl, rfl⟩ := trodVars_none hV
  obtain ⟨a0, len0, cap0, rfl⟩ := okWide_slice Try.underlying25 (hval 0 25 v0 rfl rfl)
  have k0 := h0
  have lt0 : ∀ x ∈ p0, x.block < W.heap.size := by obtain ⟨m, hm⟩ := k0; exact DataW.trod_lt m _ _ _ hm
  obtain ⟨z0, w0⟩ : ∃ zs, kit.IsRow .i64 W a0 len0 cap0 zs := by
    obtain ⟨fuel, hf⟩ := h0
    rcases open_ints Try.underlying25 Try.underlying3 (by kernel_rfl) hf with ⟨hcs, _⟩ | ⟨x, l, c, zs, hcs, _, hl, hm, hz, _, hcell, hwz⟩
    · simp [Value.cells] at hcs
      obtain ⟨rfl, rfl, rfl⟩ := hcs
      exact ⟨[], .inl ⟨rfl, rfl, rfl, rfl⟩⟩
    · simp [Value.cells] at hcs
      obtain ⟨rfl, rfl, rfl⟩ := hcs
      exact ⟨zs, .inr ⟨_, rfl, hl, hm, by simpa using hz, hcell, hwz⟩⟩
  obtain ⟨L0, hl0, wa0, wl0⟩ := kit.IsRow.listM w0
  subst hl0
  obtain ⟨a1, len1, cap1, rfl⟩ := okWide_slice Try.underlying25 (hval 1 25 v1 rfl rfl)
  have k1 := h1
  have lt1 : ∀ x ∈ p1, x.block < W.heap.size := by obtain ⟨m, hm⟩ := k1; exact DataW.trod_lt m _ _ _ hm
  obtain ⟨z1, w1⟩ : ∃ zs, kit.IsRow .i64 W a1 len1 cap1 zs := by
    obtain ⟨fuel, hf⟩ := h1
    rcases open_ints Try.underlying25 Try.underlying3 (by kernel_rfl) hf with ⟨hcs, _⟩ | ⟨x, l, c, zs, hcs, _, hl, hm, hz, _, hcell, hwz⟩
    · simp [Value.cells] at hcs
      obtain ⟨rfl, rfl, rfl⟩ := hcs
      exact ⟨[], .inl ⟨rfl, rfl, rfl, rfl⟩⟩
    · simp [Value.cells] at hcs
      obtain ⟨rfl, rfl, rfl⟩ := hcs
      exact ⟨zs, .inr ⟨_, rfl, hl, hm, by simpa using hz, hcell, hwz⟩⟩
  obtain ⟨L1, hl1, wa1, wl1⟩ := kit.IsRow.listM w1
  subst hl1
  clear hA0 hval0
  refine (walk _ _ L0 _ _ L1 W wa0 wl0 wa1 wl1).mono fun e W' ⟨he, bel⟩ => ?_
  subst he
  exact ⟨_, rfl, _, _, _, [], _, [], hW', trodAll_mk1 (shut_bool Try.underlying4 _), (trodAll_cons_mk (Below.trod kit.laidOut (by kernel_rfl) (of_decide_eq_true (by kernel_rfl)) k0 bel lt0) (trodAll_cons_mk (Below.trod kit.laidOut (by kernel_rfl) (of_decide_eq_true (by kernel_rfl)) k1 bel lt1) trodAll_mk0)), rfl, bel.frame _, fun h => by cases h⟩

theorem proved : Rows.FnExactCountMovesSaid :=
  OpenClaim.holds_of_wide 10 Try.f10 rfl rfl rfl rfl rfl rfl rfl ⟨rfl, rfl, rfl, rfl, rfl⟩ rfl rfl rfl rfl rfl (by kernel_rfl) Try.func10 (by kernel_rfl)
    (of_decide_eq_true (by kernel_rfl)) (by unfold Func.isWrapper; first | (rw [if_pos (by decide +kernel)]; kernel_rfl) | (rw [if_neg (by decide +kernel)]; exact ⟨rfl, rfl⟩))
    (fun os started H enc _ => lifted os started H enc)
end Go.Proofs.Ytpdpejlcilnafaa.fnExactCountMoves
