/-
  For every []Place and []int (the law passes over those with more than 2^20 elements), impl's IsSpread returns the same bool as the specification's and leaves its arguments as they were: the law returns true and changes nothing that was there. No other condition.
-/
import Derived.Test.YtpdpejlcilnafaaS9Pick
import Derived.Test.YtpdpejlcilnafaaS9Plan
import Derived.Test.YtpdpejlcilnafaaPlas3
import Derived.Test.YtpdpejlcilnafaaIntRow
import Derived.Deep.RegionWith
import Derived.Deep.DeepCutAuto
namespace Go.Proofs.Ytpdpejlcilnafaa.fnExactIsSpread
open Go.ChangeShapes Go.WideShapes Go.ChangeAt Go.RowKit
open Go.ChangeMaps (open_string shut_string)
set_option linter.unusedVariables false

set_option maxRecDepth 100000 in
set_option maxHeartbeats 16000000 in
theorem walk (a0 : Option Addr) (c0 : Nat) (L0 : List kit.Pla) (a1 : Option Addr) (c1 : Nat) (L1 : List Int) (w : World) (wa0 : kit.AtQ w a0 L0) (wl0 : L0.length ≤ maxLen) (wa1 : kit.At w a1 L1) (wl1 : L1.length ≤ maxLen) :
    Calls Try.prog 9 #[.slice a0 L0.length c0, .slice a1 L1.length c1] w fun e w' => e = .returned (.bool true) ∧ Below w.heap.size w w' := by
  unfold maxLen at wl0
  have HA0' := Lib.hid (kit.atQ_low wa0)
  have HA0 := Lib.hid wa0
  clear wa0
  unfold maxLen at wl1
  have HA1' := Lib.hid (kit.at_low wa1)
  have HA1 := Lib.hid wa1
  clear wa1
  have HB := Lib.hid (Below.refl w.heap.size w)
  have hz : w.heap.size ≤ w.heap.size := Nat.le_refl _
  by_cases hbiga1 : L1.length > 1048576
  · go_enter Try.func9, Try.ntmps9
    go_wp2_with fail
    go_ret
    exact ⟨rfl, Below.refl _ _⟩
  go_enter Try.func9, Try.ntmps9
  go_wp2_with fail
  refine (kit.szPlaceS a0 L0.length c0 (1048576) w (by omega) (by omega) (by omega)).mono ?_
  rintro e w1 ⟨rfl, hw⟩
  subst hw
  by_cases hs1 : ¬ (L0.length : Int) ≤ 1048576
  · rw [if_neg hs1]
    go_wp2_with fail
    go_ret
    exact ⟨rfl, HB.out⟩
  replace hs1 := Decidable.not_not.1 hs1
  rw [if_pos hs1]
  go_wp2_with fail
  refine (kit.toPlaceS a0 c0 L0 w (by omega) HA0.out).mono ?_
  rintro e w2 ⟨u3, rfl, ho, hb⟩
  obtain ⟨yr4, qr4, rfl⟩ := ho.shape
  replace HB := Lib.hid (HB.out.trans (hb.mono hz))
  replace hz := Nat.le_trans hz hb.size
  have HZw2 := Lib.hid hb.size
  replace HA0 := Lib.hid (HA0.out.later hb)
  replace HA1 := Lib.hid (HA1.out.later hb)
  have HOr4 := Lib.hid ho
  have HUr4 := Lib.hid ho.block
  clear ho
  clear hb
  go_wp2_with fail
  refine (kit.toIntS_any a1 c1 L1 w2 (by omega) HA1.out).mono ?_
  rintro e w5 ⟨u6, rfl, ho, hb⟩
  obtain ⟨yr7, qr7, rfl⟩ := ho.shape
  replace HB := Lib.hid (HB.out.trans (hb.mono hz))
  replace hz := Nat.le_trans hz hb.size
  have HZw5 := Lib.hid hb.size
  replace HOr4 := Lib.hid (HOr4.out.later hb)
  replace HA0 := Lib.hid (HA0.out.later hb)
  replace HA1 := Lib.hid (HA1.out.later hb)
  have HOr7 := Lib.hid ho
  have HUr7 := Lib.hid ho.block
  clear ho
  clear hb
  go_wp2_with fail
  refine (kit.specIsSpread _ (.slice yr4 L0.length qr4) L0 _ (.slice yr7 L1.length qr7) L1 w5 (by omega) HOr4.out (by omega) HOr7.out).mono ?_
  rintro e w8 ⟨he, hb⟩
  generalize hT1 : kit.spreadP L0 L1 = T1 at he
  have HT1 := Lib.hid hT1
  clear hT1
  subst he
  replace HB := Lib.hid (HB.out.trans (hb.mono hz))
  replace hz := Nat.le_trans hz hb.size
  have HZw8 := Lib.hid hb.size
  replace HOr4 := Lib.hid (HOr4.out.later hb)
  replace HOr7 := Lib.hid (HOr7.out.later hb)
  replace HA0 := Lib.hid (HA0.out.later hb)
  replace HA1 := Lib.hid (HA1.out.later hb)
  clear hb
  go_wp2_with fail
  refine (kit.toPlaceS a0 c0 L0 w8 (by omega) HA0.out).mono ?_
  rintro e w9 ⟨u10, rfl, ho, hb⟩
  obtain ⟨yr11, qr11, rfl⟩ := ho.shape
  replace HB := Lib.hid (HB.out.trans (hb.mono hz))
  replace hz := Nat.le_trans hz hb.size
  have HZw9 := Lib.hid hb.size
  replace HOr4 := Lib.hid (HOr4.out.later hb)
  replace HOr7 := Lib.hid (HOr7.out.later hb)
  replace HA0 := Lib.hid (HA0.out.later hb)
  replace HA1 := Lib.hid (HA1.out.later hb)
  have HOr11 := Lib.hid ho
  have HUr11 := Lib.hid ho.block
  clear ho
  clear hb
  go_wp2_with fail
  refine (kit.toIntS_any a1 c1 L1 w9 (by omega) HA1.out).mono ?_
  rintro e w12 ⟨u13, rfl, ho, hb⟩
  obtain ⟨yr14, qr14, rfl⟩ := ho.shape
  replace HB := Lib.hid (HB.out.trans (hb.mono hz))
  replace hz := Nat.le_trans hz hb.size
  have HZw12 := Lib.hid hb.size
  replace HOr4 := Lib.hid (HOr4.out.later hb)
  replace HOr7 := Lib.hid (HOr7.out.later hb)
  replace HOr11 := Lib.hid (HOr11.out.later hb)
  replace HA0 := Lib.hid (HA0.out.later hb)
  replace HA1 := Lib.hid (HA1.out.later hb)
  have HOr14 := Lib.hid ho
  have HUr14 := Lib.hid ho.block
  clear ho
  clear hb
  go_wp2_with fail
  refine (kit.implIsSpread _ (.slice yr11 L0.length qr11) L0 _ (.slice yr14 L1.length qr14) L1 w12 (by omega) HOr11.out (by omega) HOr14.out).mono ?_
  rintro e w15 ⟨he, hb⟩
  rw [HT1.out] at he
  subst he
  replace HB := Lib.hid (HB.out.trans (hb.mono hz))
  replace hz := Nat.le_trans hz hb.size
  have HZw15 := Lib.hid hb.size
  replace HOr4 := Lib.hid (HOr4.out.later hb)
  replace HOr7 := Lib.hid (HOr7.out.later hb)
  replace HOr11 := Lib.hid (HOr11.out.later hb)
  replace HOr14 := Lib.hid (HOr14.out.later hb)
  replace HA0 := Lib.hid (HA0.out.later hb)
  replace HA1 := Lib.hid (HA1.out.later hb)
  clear hb
  go_wp2_with fail
  refine (kit.toPlaceS a0 c0 L0 w15 (by omega) HA0.out).mono ?_
  rintro e w16 ⟨u17, rfl, ho, hb⟩
  obtain ⟨yr18, qr18, rfl⟩ := ho.shape
  replace HB := Lib.hid (HB.out.trans (hb.mono hz))
  replace hz := Nat.le_trans hz hb.size
  have HZw16 := Lib.hid hb.size
  replace HOr4 := Lib.hid (HOr4.out.later hb)
  replace HOr7 := Lib.hid (HOr7.out.later hb)
  replace HOr11 := Lib.hid (HOr11.out.later hb)
  replace HOr14 := Lib.hid (HOr14.out.later hb)
  replace HA0 := Lib.hid (HA0.out.later hb)
  replace HA1 := Lib.hid (HA1.out.later hb)
  have HOr18 := Lib.hid ho
  have HUr18 := Lib.hid ho.block
  clear ho
  clear hb
  go_wp2_with fail
  refine (kit.eqPlaceSO _ _ (.slice yr11 L0.length qr11) (.slice yr18 L0.length qr18) L0 L0 w16 (by omega) (by omega) HOr11.out HOr18.out).mono ?_
  rintro e w19 ⟨he, hb⟩
  rw [decide_eq_true rfl] at he
  subst he
  replace HB := Lib.hid (HB.out.trans (hb.mono hz))
  replace hz := Nat.le_trans hz hb.size
  have HZw19 := Lib.hid hb.size
  replace HOr4 := Lib.hid (HOr4.out.later hb)
  replace HOr7 := Lib.hid (HOr7.out.later hb)
  replace HOr11 := Lib.hid (HOr11.out.later hb)
  replace HOr14 := Lib.hid (HOr14.out.later hb)
  replace HOr18 := Lib.hid (HOr18.out.later hb)
  replace HA0 := Lib.hid (HA0.out.later hb)
  replace HA1 := Lib.hid (HA1.out.later hb)
  clear hb
  go_wp2_with fail
  refine (kit.toIntS_any a1 c1 L1 w19 (by omega) HA1.out).mono ?_
  rintro e w20 ⟨u21, rfl, ho, hb⟩
  obtain ⟨yr22, qr22, rfl⟩ := ho.shape
  replace HB := Lib.hid (HB.out.trans (hb.mono hz))
  replace hz := Nat.le_trans hz hb.size
  have HZw20 := Lib.hid hb.size
  replace HOr4 := Lib.hid (HOr4.out.later hb)
  replace HOr7 := Lib.hid (HOr7.out.later hb)
  replace HOr11 := Lib.hid (HOr11.out.later hb)
  replace HOr14 := Lib.hid (HOr14.out.later hb)
  replace HOr18 := Lib.hid (HOr18.out.later hb)
  replace HA0 := Lib.hid (HA0.out.later hb)
  replace HA1 := Lib.hid (HA1.out.later hb)
  have HOr22 := Lib.hid ho
  have HUr22 := Lib.hid ho.block
  clear ho
  clear hb
  go_wp2_with fail
  refine (kit.eqIntSO _ _ (.slice yr14 L1.length qr14) (.slice yr22 L1.length qr22) L1 L1 w20 (by omega) (by omega) HOr14.out HOr22.out).mono ?_
  rintro e w23 ⟨he, hb⟩
  rw [decide_eq_true rfl] at he
  subst he
  replace HB := Lib.hid (HB.out.trans (hb.mono hz))
  replace hz := Nat.le_trans hz hb.size
  have HZw23 := Lib.hid hb.size
  replace HOr4 := Lib.hid (HOr4.out.later hb)
  replace HOr7 := Lib.hid (HOr7.out.later hb)
  replace HOr11 := Lib.hid (HOr11.out.later hb)
  replace HOr14 := Lib.hid (HOr14.out.later hb)
  replace HOr18 := Lib.hid (HOr18.out.later hb)
  replace HOr22 := Lib.hid (HOr22.out.later hb)
  replace HA0 := Lib.hid (HA0.out.later hb)
  replace HA1 := Lib.hid (HA1.out.later hb)
  clear hb
  go_wp2_with fail
  go_ret
  exact ⟨rfl, HB.out⟩
set_option maxRecDepth 100000 in
theorem lifted (os : Os) (started : os.Started) (H : Type) (enc : TypeId × Value → H) :
    ReturnsInHanded {} Try.checked os 9 .any (Rows.fnExactIsSpreadSpec.pre6 enc Try.prog Try.f9 Rows.fnExactIsSpreadRow.domain false) (Rows.fnExactIsSpreadSpec.post enc Try.prog Try.f9 false true false false) := by
  refine returnsInHanded_of_change (C := Try.checked) kit.own started (by kernel_rfl) Try.func9
    (ChangeSpec.witness6 (enc := enc) (C := Try.checked) false ⟨#[], #[.slice none 0 0, .slice none 0 0], []⟩ 8 (by kernel_rfl) (by kernel_rfl) (by kernel_rfl) (by kernel_rfl)) ?_
  intro W base args ds gs before hval0 hW hcnd _
  have hval : ∀ (j : Nat) t v, Try.f9.params[j]? = some t → args[j]? = some v → Value.okWide Try.prog W .any base t v := hval0
  have hW' := hW
  obtain ⟨p, q, hA0, hV, rfl, hfz, hnd⟩ := hW
  have hA : DataW.TrodAll enc Try.prog W 0 (fun _ => true) true Try.f9.params.toList args.toList ds p := hA0
  rw [Try.params9] at hA hval
  obtain ⟨v0, vs0, d0, ds0, p0, q0, hargs, rfl, rfl, h0, r0⟩ := trodAll_cons hA
  obtain ⟨v1, vs1, d1, ds1, p1, q1, rfl, rfl, rfl, h1, r1⟩ := trodAll_cons r0
  obtain ⟨rfl, rfl, rfl⟩ := trodAll_nil r1
  obtain rfl : args = #[v0, v1] := by cases args; simp_all
  obtain ⟨rfl, rfl⟩ := trodVars_none hV
  have k0 := h0
  have lt0 : ∀ x ∈ p0, x.block < W.heap.size := by obtain ⟨m, hm⟩ := k0; exact DataW.trod_lt m _ _ _ hm
  obtain ⟨a0, len0, cap0, rfl⟩ := okWide_slice Try.underlying41 (hval 0 41 v0 rfl rfl)
  obtain ⟨a0', c0, L0, he0, wa0, wl0⟩ := kit.open_plaV h0 lt0 rfl
  injection he0 with he0a he0b he0c
  subst he0a he0b he0c
  obtain ⟨a1, len1, cap1, rfl⟩ := okWide_slice Try.underlying25 (hval 1 25 v1 rfl rfl)
  have k1 := h1
  have lt1 : ∀ x ∈ p1, x.block < W.heap.size := by obtain ⟨m, hm⟩ := k1; exact DataW.trod_lt m _ _ _ hm
  obtain ⟨z1, w1⟩ : ∃ zs, kit.IsRow .i64 W a1 len1 cap1 zs := by
    obtain ⟨fuel, hf⟩ := h1
    rcases open_ints Try.underlying25 Try.underlying3 (by kernel_rfl) hf with ⟨hcs, _⟩ | ⟨x, l, c, zs, hcs, _, hl, hm, hz, _, hcell, hwz⟩
    · simp [Value.cells] at hcs
      obtain ⟨rfl, rfl, rfl⟩ := hcs
      exact ⟨[], .inl ⟨rfl, rfl, rfl, rfl⟩⟩
    · simp [Value.cells] at hcs
      obtain ⟨rfl, rfl, rfl⟩ := hcs
      exact ⟨zs, .inr ⟨_, rfl, hl, hm, by simpa using hz, hcell, hwz⟩⟩
  obtain ⟨L1, hl1, wa1, wl1⟩ := kit.IsRow.listM w1
  subst hl1
  clear hA0 hval0
  refine (walk _ _ L0 _ _ L1 W wa0 wl0 wa1 wl1).mono fun e W' ⟨he, bel⟩ => ?_
  subst he
  exact ⟨_, rfl, _, _, _, [], _, [], hW', trodAll_mk1 (shut_bool Try.underlying4 _), (trodAll_cons_mk (Below.trod kit.laidOut (by kernel_rfl) (of_decide_eq_true (by kernel_rfl)) k0 bel lt0) (trodAll_cons_mk (Below.trod kit.laidOut (by kernel_rfl) (of_decide_eq_true (by kernel_rfl)) k1 bel lt1) trodAll_mk0)), rfl, bel.frame _, fun h => by cases h⟩

theorem proved : Rows.FnExactIsSpreadSaid :=
  OpenClaim.holds_of_wide 9 Try.f9 rfl rfl rfl rfl rfl rfl rfl ⟨rfl, rfl, rfl, rfl, rfl⟩ rfl rfl rfl rfl rfl (by kernel_rfl) Try.func9 (by kernel_rfl)
    (of_decide_eq_true (by kernel_rfl)) (by unfold Func.isWrapper; first | (rw [if_pos (by decide +kernel)]; kernel_rfl) | (rw [if_neg (by decide +kernel)]; exact ⟨rfl, rfl⟩))
    (fun os started H enc _ => lifted os started H enc)
end Go.Proofs.Ytpdpejlcilnafaa.fnExactIsSpread
