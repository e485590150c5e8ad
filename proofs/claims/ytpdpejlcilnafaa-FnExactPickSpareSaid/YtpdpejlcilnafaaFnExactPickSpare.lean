/-
  For every []Place and two []int (the law passes over those with more than 2^20 elements), impl's PickSpare returns the same number as the specification's and leaves its arguments as they were: the law returns true and changes nothing that was there. No other condition.
-/
import Derived.Test.YtpdpejlcilnafaaS9Pick
import Derived.Test.YtpdpejlcilnafaaS9Spare
import Derived.Test.YtpdpejlcilnafaaPlas3
import Derived.Test.YtpdpejlcilnafaaIntRow
import Derived.Deep.RegionWith
import Derived.Deep.DeepCutAuto
namespace Go.Proofs.Ytpdpejlcilnafaa.fnExactPickSpare
open Go.ChangeShapes Go.WideShapes Go.ChangeAt Go.RowKit
open Go.ChangeMaps (open_string shut_string)
set_option linter.unusedVariables false

set_option maxRecDepth 100000 in
set_option maxHeartbeats 16000000 in
theorem walk (a0 : Option Addr) (c0 : Nat) (L0 : List kit.Pla) (a1 : Option Addr) (c1 : Nat) (L1 : List Int) (a2 : Option Addr) (c2 : Nat) (L2 : List Int) (w : World) (wa0 : kit.AtQ w a0 L0) (wl0 : L0.length ≤ maxLen) (wa1 : kit.At w a1 L1) (wl1 : L1.length ≤ maxLen) (wa2 : kit.At w a2 L2) (wl2 : L2.length ≤ maxLen) :
    Calls Try.prog 7 #[.slice a0 L0.length c0, .slice a1 L1.length c1, .slice a2 L2.length c2] w fun e w' => e = .returned (.bool true) ∧ Below w.heap.size w w' := by
  unfold maxLen at wl0
  have HA0' := Lib.hid (kit.atQ_low wa0)
  have HA0 := Lib.hid wa0
  clear wa0
  unfold maxLen at wl1
  have HA1' := Lib.hid (kit.at_low wa1)
  have HA1 := Lib.hid wa1
  clear wa1
  unfold maxLen at wl2
  have HA2' := Lib.hid (kit.at_low wa2)
  have HA2 := Lib.hid wa2
  clear wa2
  have HB := Lib.hid (Below.refl w.heap.size w)
  have hz : w.heap.size ≤ w.heap.size := Nat.le_refl _
  by_cases hbiga1 : L1.length > 1048576
  · go_enter Try.func7, Try.ntmps7
    go_wp2_with fail
    go_ret
    exact ⟨rfl, Below.refl _ _⟩
  by_cases hbiga2 : L2.length > 1048576
  · go_enter Try.func7, Try.ntmps7
    go_wp2_with fail
    go_ret
    exact ⟨rfl, Below.refl _ _⟩
  go_enter Try.func7, Try.ntmps7
  go_wp2_with fail
  refine (kit.szPlaceS a0 L0.length c0 (1048576) w (by omega) (by omega) (by omega)).mono ?_
  rintro e w1 ⟨rfl, hw⟩
  subst hw
  by_cases hs1 : ¬ (L0.length : Int) ≤ 1048576
  · rw [if_neg hs1]
    go_wp2_with fail
    go_ret
    exact ⟨rfl, HB.out⟩
  replace hs1 := Decidable.not_not.1 hs1
  rw [if_pos hs1]
  go_wp2_with fail
  refine (kit.toPlaceS a0 c0 L0 w (by omega) HA0.out).mono ?_
  rintro e w2 ⟨u3, rfl, ho, hb⟩
  obtain ⟨yr4, qr4, rfl⟩ := ho.shape
  replace HB := Lib.hid (HB.out.trans (hb.mono hz))
  replace hz := Nat.le_trans hz hb.size
  have HZw2 := Lib.hid hb.size
  replace HA0 := Lib.hid (HA0.out.later hb)
  replace HA1 := Lib.hid (HA1.out.later hb)
  replace HA2 := Lib.hid (HA2.out.later hb)
  have HOr4 := Lib.hid ho
  have HUr4 := Lib.hid ho.block
  clear ho
  clear hb
  go_wp2_with fail
  refine (kit.toIntS_any a1 c1 L1 w2 (by omega) HA1.out).mono ?_
  rintro e w5 ⟨u6, rfl, ho, hb⟩
  obtain ⟨yr7, qr7, rfl⟩ := ho.shape
  replace HB := Lib.hid (HB.out.trans (hb.mono hz))
  replace hz := Nat.le_trans hz hb.size
  have HZw5 := Lib.hid hb.size
  replace HOr4 := Lib.hid (HOr4.out.later hb)
  replace HA0 := Lib.hid (HA0.out.later hb)
  replace HA1 := Lib.hid (HA1.out.later hb)
  replace HA2 := Lib.hid (HA2.out.later hb)
  have HOr7 := Lib.hid ho
  have HUr7 := Lib.hid ho.block
  clear ho
  clear hb
  go_wp2_with fail
  refine (kit.toIntS_any a2 c2 L2 w5 (by omega) HA2.out).mono ?_
  rintro e w8 ⟨u9, rfl, ho, hb⟩
  obtain ⟨yr10, qr10, rfl⟩ := ho.shape
  replace HB := Lib.hid (HB.out.trans (hb.mono hz))
  replace hz := Nat.le_trans hz hb.size
  have HZw8 := Lib.hid hb.size
  replace HOr4 := Lib.hid (HOr4.out.later hb)
  replace HOr7 := Lib.hid (HOr7.out.later hb)
  replace HA0 := Lib.hid (HA0.out.later hb)
  replace HA1 := Lib.hid (HA1.out.later hb)
  replace HA2 := Lib.hid (HA2.out.later hb)
  have HOr10 := Lib.hid ho
  have HUr10 := Lib.hid ho.block
  clear ho
  clear hb
  go_wp2_with fail
  refine (kit.specPickSpare _ (.slice yr4 L0.length qr4) L0 _ (.slice yr7 L1.length qr7) L1 _ (.slice yr10 L2.length qr10) L2 w8 (by omega) HOr4.out (by omega) HOr7.out (by omega) HOr10.out).mono ?_
  rintro e w11 ⟨he, hb⟩
  generalize hT1 : kit.spareP L0 L1 L2 = T1 at he
  have HT1 := Lib.hid hT1
  clear hT1
  subst he
  replace HB := Lib.hid (HB.out.trans (hb.mono hz))
  replace hz := Nat.le_trans hz hb.size
  have HZw11 := Lib.hid hb.size
  replace HOr4 := Lib.hid (HOr4.out.later hb)
  replace HOr7 := Lib.hid (HOr7.out.later hb)
  replace HOr10 := Lib.hid (HOr10.out.later hb)
  replace HA0 := Lib.hid (HA0.out.later hb)
  replace HA1 := Lib.hid (HA1.out.later hb)
  replace HA2 := Lib.hid (HA2.out.later hb)
  clear hb
  go_wp2_with fail
  refine (kit.toPlaceS a0 c0 L0 w11 (by omega) HA0.out).mono ?_
  rintro e w12 ⟨u13, rfl, ho, hb⟩
  obtain ⟨yr14, qr14, rfl⟩ := ho.shape
  replace HB := Lib.hid (HB.out.trans (hb.mono hz))
  replace hz := Nat.le_trans hz hb.size
  have HZw12 := Lib.hid hb.size
  replace HOr4 := Lib.hid (HOr4.out.later hb)
  replace HOr7 := Lib.hid (HOr7.out.later hb)
  replace HOr10 := Lib.hid (HOr10.out.later hb)
  replace HA0 := Lib.hid (HA0.out.later hb)
  replace HA1 := Lib.hid (HA1.out.later hb)
  replace HA2 := Lib.hid (HA2.out.later hb)
  have HOr14 := Lib.hid ho
  have HUr14 := Lib.hid ho.block
  clear ho
  clear hb
  go_wp2_with fail
  refine (kit.toIntS_any a1 c1 L1 w12 (by omega) HA1.out).mono ?_
  rintro e w15 ⟨u16, rfl, ho, hb⟩
  obtain ⟨yr17, qr17, rfl⟩ := ho.shape
  replace HB := Lib.hid (HB.out.trans (hb.mono hz))
  replace hz := Nat.le_trans hz hb.size
  have HZw15 := Lib.hid hb.size
  replace HOr4 := Lib.hid (HOr4.out.later hb)
  replace HOr7 := Lib.hid (HOr7.out.later hb)
  replace HOr10 := Lib.hid (HOr10.out.later hb)
  replace HOr14 := Lib.hid (HOr14.out.later hb)
  replace HA0 := Lib.hid (HA0.out.later hb)
  replace HA1 := Lib.hid (HA1.out.later hb)
  replace HA2 := Lib.hid (HA2.out.later hb)
  have HOr17 := Lib.hid ho
  have HUr17 := Lib.hid ho.block
  clear ho
  clear hb
  go_wp2_with fail
  refine (kit.toIntS_any a2 c2 L2 w15 (by omega) HA2.out).mono ?_
  rintro e w18 ⟨u19, rfl, ho, hb⟩
  obtain ⟨yr20, qr20, rfl⟩ := ho.shape
  replace HB := Lib.hid (HB.out.trans (hb.mono hz))
  replace hz := Nat.le_trans hz hb.size
  have HZw18 := Lib.hid hb.size
  replace HOr4 := Lib.hid (HOr4.out.later hb)
  replace HOr7 := Lib.hid (HOr7.out.later hb)
  replace HOr10 := Lib.hid (HOr10.out.later hb)
  replace HOr14 := Lib.hid (HOr14.out.later hb)
  replace HOr17 := Lib.hid (HOr17.out.later hb)
  replace HA0 := Lib.hid (HA0.out.later hb)
  replace HA1 := Lib.hid (HA1.out.later hb)
  replace HA2 := Lib.hid (HA2.out.later hb)
  have HOr20 := Lib.hid ho
  have HUr20 := Lib.hid ho.block
  clear ho
  clear hb
  go_wp2_with fail
  refine (kit.implPickSpare _ (.slice yr14 L0.length qr14) L0 _ (.slice yr17 L1.length qr17) L1 _ (.slice yr20 L2.length qr20) L2 w18 (by omega) HOr14.out (by omega) HOr17.out (by omega) HOr20.out).mono ?_
  rintro e w21 ⟨he, hb⟩
  rw [HT1.out] at he
  subst he
  replace HB := Lib.hid (HB.out.trans (hb.mono hz))
  replace hz := Nat.le_trans hz hb.size
  have HZw21 := Lib.hid hb.size
  replace HOr4 := Lib.hid (HOr4.out.later hb)
  replace HOr7 := Lib.hid (HOr7.out.later hb)
  replace HOr10 := Lib.hid (HOr10.out.later hb)
  replace HOr14 := Lib.hid (HOr14.out.later hb)
  replace HOr17 := Lib.hid (HOr17.out.later hb)
  replace HOr20 := Lib.hid (HOr20.out.later hb)
  replace HA0 := Lib.hid (HA0.out.later hb)
  replace HA1 := Lib.hid (HA1.out.later hb)
  replace HA2 := Lib.hid (HA2.out.later hb)
  clear hb
  go_wp2_with fail
  refine (kit.toPlaceS a0 c0 L0 w21 (by omega) HA0.out).mono ?_
  rintro e w22 ⟨u23, rfl, ho, hb⟩
  obtain ⟨yr24, qr24, rfl⟩ := ho.shape
  replace HB := Lib.hid (HB.out.trans (hb.mono hz))
  replace hz := Nat.le_trans hz hb.size
  have HZw22 := Lib.hid hb.size
  replace HOr4 := Lib.hid (HOr4.out.later hb)
  replace HOr7 := Lib.hid (HOr7.out.later hb)
  replace HOr10 := Lib.hid (HOr10.out.later hb)
  replace HOr14 := Lib.hid (HOr14.out.later hb)
  replace HOr17 := Lib.hid (HOr17.out.later hb)
  replace HOr20 := Lib.hid (HOr20.out.later hb)
  replace HA0 := Lib.hid (HA0.out.later hb)
  replace HA1 := Lib.hid (HA1.out.later hb)
  replace HA2 := Lib.hid (HA2.out.later hb)
  have HOr24 := Lib.hid ho
  have HUr24 := Lib.hid ho.block
  clear ho
  clear hb
  go_wp2_with fail
  refine (kit.eqPlaceSO _ _ (.slice yr14 L0.length qr14) (.slice yr24 L0.length qr24) L0 L0 w22 (by omega) (by omega) HOr14.out HOr24.out).mono ?_
  rintro e w25 ⟨he, hb⟩
  rw [decide_eq_true rfl] at he
  subst he
  replace HB := Lib.hid (HB.out.trans (hb.mono hz))
  replace hz := Nat.le_trans hz hb.size
  have HZw25 := Lib.hid hb.size
  replace HOr4 := Lib.hid (HOr4.out.later hb)
  replace HOr7 := Lib.hid (HOr7.out.later hb)
  replace HOr10 := Lib.hid (HOr10.out.later hb)
  replace HOr14 := Lib.hid (HOr14.out.later hb)
  replace HOr17 := Lib.hid (HOr17.out.later hb)
  replace HOr20 := Lib.hid (HOr20.out.later hb)
  replace HOr24 := Lib.hid (HOr24.out.later hb)
  replace HA0 := Lib.hid (HA0.out.later hb)
  replace HA1 := Lib.hid (HA1.out.later hb)
  replace HA2 := Lib.hid (HA2.out.later hb)
  clear hb
  go_wp2_with fail
  refine (kit.toIntS_any a1 c1 L1 w25 (by omega) HA1.out).mono ?_
  rintro e w26 ⟨u27, rfl, ho, hb⟩
  obtain ⟨yr28, qr28, rfl⟩ := ho.shape
  replace HB := Lib.hid (HB.out.trans (hb.mono hz))
  replace hz := Nat.le_trans hz hb.size
  have HZw26 := Lib.hid hb.size
  replace HOr4 := Lib.hid (HOr4.out.later hb)
  replace HOr7 := Lib.hid (HOr7.out.later hb)
  replace HOr10 := Lib.hid (HOr10.out.later hb)
  replace HOr14 := Lib.hid (HOr14.out.later hb)
  replace HOr17 := Lib.hid (HOr17.out.later hb)
  replace HOr20 := Lib.hid (HOr20.out.later hb)
  replace HOr24 := Lib.hid (HOr24.out.later hb)
  replace HA0 := Lib.hid (HA0.out.later hb)
  replace HA1 := Lib.hid (HA1.out.later hb)
  replace HA2 := Lib.hid (HA2.out.later hb)
  have HOr28 := Lib.hid ho
  have HUr28 := Lib.hid ho.block
  clear ho
  clear hb
  go_wp2_with fail
  refine (kit.eqIntSO _ _ (.slice yr17 L1.length qr17) (.slice yr28 L1.length qr28) L1 L1 w26 (by omega) (by omega) HOr17.out HOr28.out).mono ?_
  rintro e w29 ⟨he, hb⟩
  rw [decide_eq_true rfl] at he
  subst he
  replace HB := Lib.hid (HB.out.trans (hb.mono hz))
  replace hz := Nat.le_trans hz hb.size
  have HZw29 := Lib.hid hb.size
  replace HOr4 := Lib.hid (HOr4.out.later hb)
  replace HOr7 := Lib.hid (HOr7.out.later hb)
  replace HOr10 := Lib.hid (HOr10.out.later hb)
  replace HOr14 := Lib.hid (HOr14.out.later hb)
  replace HOr17 := Lib.hid (HOr17.out.later hb)
  replace HOr20 := Lib.hid (HOr20.out.later hb)
  replace HOr24 := Lib.hid (HOr24.out.later hb)
  replace HOr28 := Lib.hid (HOr28.out.later hb)
  replace HA0 := Lib.hid (HA0.out.later hb)
  replace HA1 := Lib.hid (HA1.out.later hb)
  replace HA2 := Lib.hid (HA2.out.later hb)
  clear hb
  go_wp2_with fail
  refine (kit.toIntS_any a2 c2 L2 w29 (by omega) HA2.out).mono ?_
  rintro e w30 ⟨u31, rfl, ho, hb⟩
  obtain ⟨yr32, qr32, rfl⟩ := ho.shape
  replace HB := Lib.hid (HB.out.trans (hb.mono hz))
  replace hz := Nat.le_trans hz hb.size
  have HZw30 := Lib.hid hb.size
  replace HOr4 := Lib.hid (HOr4.out.later hb)
  replace HOr7 := Lib.hid (HOr7.out.later hb)
  replace HOr10 := Lib.hid (HOr10.out.later hb)
  replace HOr14 := Lib.hid (HOr14.out.later hb)
  replace HOr17 := Lib.hid (HOr17.out.later hb)
  replace HOr20 := Lib.hid (HOr20.out.later hb)
  replace HOr24 := Lib.hid (HOr24.out.later hb)
  replace HOr28 := Lib.hid (HOr28.out.later hb)
  replace HA0 := Lib.hid (HA0.out.later hb)
  replace HA1 := Lib.hid (HA1.out.later hb)
  replace HA2 := Lib.hid (HA2.out.later hb)
  have HOr32 := Lib.hid ho
  have HUr32 := Lib.hid ho.block
  clear ho
  clear hb
  go_wp2_with fail
  refine (kit.eqIntSO _ _ (.slice yr20 L2.length qr20) (.slice yr32 L2.length qr32) L2 L2 w30 (by omega) (by omega) HOr20.out HOr32.out).mono ?_
  rintro e w33 ⟨he, hb⟩
  rw [decide_eq_true rfl] at he
  subst he
  replace HB := Lib.hid (HB.out.trans (hb.mono hz))
  replace hz := Nat.le_trans hz hb.size
  have HZw33 := Lib.hid hb.size
  replace HOr4 := Lib.hid (HOr4.out.later hb)
  replace HOr7 := Lib.hid (HOr7.out.later hb)
  replace HOr10 := Lib.hid (HOr10.out.later hb)
  replace HOr14 := Lib.hid (HOr14.out.later hb)
  replace HOr17 := Lib.hid (HOr17.out.later hb)
  replace HOr20 := Lib.hid (HOr20.out.later hb)
  replace HOr24 := Lib.hid (HOr24.out.later hb)
  replace HOr28 := Lib.hid (HOr28.out.later hb)
  replace HOr32 := Lib.hid (HOr32.out.later hb)
  replace HA0 := Lib.hid (HA0.out.later hb)
  replace HA1 := Lib.hid (HA1.out.later hb)
  replace HA2 := Lib.hid (HA2.out.later hb)
  clear hb
  go_wp2_with fail
  go_ret
  exact ⟨rfl, HB.out⟩
set_option maxRecDepth 100000 in
theorem lifted (os : Os) (started : os.Started) (H : Type) (enc : TypeId × Value → H) :
    ReturnsInHanded {} Try.checked os 7 .any (Rows.fnExactPickSpareSpec.pre6 enc Try.prog Try.f7 Rows.fnExactPickSpareRow.domain false) (Rows.fnExactPickSpareSpec.post enc Try.prog Try.f7 false true false false) := by
  refine returnsInHanded_of_change (C := Try.checked) kit.own started (by kernel_rfl) Try.func7
    (ChangeSpec.witness6 (enc := enc) (C := Try.checked) false ⟨#[], #[.slice none 0 0, .slice none 0 0, .slice none 0 0], []⟩ 8 (by kernel_rfl) (by kernel_rfl) (by kernel_rfl) (by kernel_rfl)) ?_
  intro W base args ds gs before hval0 hW hcnd _
  have hval : ∀ (j : Nat) t v, Try.f7.params[j]? = some t → args[j]? = some v → Value.okWide Try.prog W .any base t v := hval0
  have hW' := hW
  obtain ⟨p, q, hA0, hV, rfl, hfz, hnd⟩ := hW
  have hA : DataW.TrodAll enc Try.prog W 0 (fun _ => true) true Try.f7.params.toList args.toList ds p := hA0
  rw [Try.params7] at hA hval
  obtain ⟨v0, vs0, d0, ds0, p0, q0, hargs, rfl, rfl, h0, r0⟩ := trodAll_cons hA
  obtain ⟨v1, vs1, d1, ds1, p1, q1, rfl, rfl, rfl, h1, r1⟩ := trodAll_cons r0
  obtain ⟨v2, vs2, d2, ds2, p2, q2, rfl, rfl, rfl, h2, r2⟩ := trodAll_cons r1
  obtain ⟨rfl, rfl, rfl⟩ := trodAll_nil r2
  obtain rfl : args = #[v0, v1, v2] := by cases args; simp_all
  obtain ⟨rfl, rfl⟩ := trodVars_none hV
  have k0 := h0
  have lt0 : ∀ x ∈ p0, x.block < W.heap.size := by obtain ⟨m, hm⟩ := k0; exact DataW.trod_lt m _ _ _ hm
  obtain ⟨a0, len0, cap0, rfl⟩ := okWide_slice Try.underlying41 (hval 0 41 v0 rfl rfl)
  obtain ⟨a0', c0, L0, he0, wa0, wl0⟩ := kit.open_plaV h0 lt0 rfl
  injection he0 with he0a he0b he0c
  subst he0a he0b he0c
  obtain ⟨a1, len1, cap1, rfl⟩ := okWide_slice Try.underlying25 (hval 1 25 v1 rfl rfl)
  have k1 := h1
  have lt1 : ∀ x ∈ p1, x.block < W.heap.size := by obtain ⟨m, hm⟩ := k1; exact DataW.trod_lt m _ _ _ hm
  obtain ⟨z1, w1⟩ : ∃ zs, kit.IsRow .i64 W a1 len1 cap1 zs := by
    obtain ⟨fuel, hf⟩ := h1
    rcases open_ints Try.underlying25 Try.underlying3 (by kernel_rfl) hf with ⟨hcs, _⟩ | ⟨x, l, c, zs, hcs, _, hl, hm, hz, _, hcell, hwz⟩
    · simp [Value.cells] at hcs
      obtain ⟨rfl, rfl, rfl⟩ := hcs
      exact ⟨[], .inl ⟨rfl, rfl, rfl, rfl⟩⟩
    · simp [Value.cells] at hcs
      obtain ⟨rfl, rfl, rfl⟩ := hcs
      exact ⟨zs, .inr ⟨_, rfl, hl, hm, by simpa using hz, hcell, hwz⟩⟩
  obtain ⟨L1, hl1, wa1, wl1⟩ := kit.IsRow.listM w1
  subst hl1
  obtain ⟨a2, len2, cap2, rfl⟩ := okWide_slice Try.underlying25 (hval 2 25 v2 rfl rfl)
  have k2 := h2
  have lt2 : ∀ x ∈ p2, x.block < W.heap.size := by obtain ⟨m, hm⟩ := k2; exact DataW.trod_lt m _ _ _ hm
  obtain ⟨z2, w2⟩ : ∃ zs, kit.IsRow .i64 W a2 len2 cap2 zs := by
    obtain ⟨fuel, hf⟩ := h2
    rcases open_ints Try.underlying25 Try.underlying3 (by kernel_rfl) hf with ⟨hcs, _⟩ | ⟨x, l, c, zs, hcs, _, hl, hm, hz, _, hcell, hwz⟩
    · simp [Value.cells] at hcs
      obtain ⟨rfl, rfl, rfl⟩ := hcs
      exact ⟨[], .inl ⟨rfl, rfl, rfl, rfl⟩⟩
    · simp [Value.cells] at hcs
      obtain ⟨rfl, rfl, rfl⟩ := hcs
      exact ⟨zs, .inr ⟨_, rfl, hl, hm, by simpa using hz, hcell, hwz⟩⟩
  obtain ⟨L2, hl2, wa2, wl2⟩ := kit.IsRow.listM w2
  subst hl2
  clear hA0 hval0
  refine (walk _ _ L0 _ _ L1 _ _ L2 W wa0 wl0 wa1 wl1 wa2 wl2).mono fun e W' ⟨he, bel⟩ => ?_
  subst he
  exact ⟨_, rfl, _, _, _, [], _, [], hW', trodAll_mk1 (shut_bool Try.underlying4 _), (trodAll_cons_mk (Below.trod kit.laidOut (by kernel_rfl) (of_decide_eq_true (by kernel_rfl)) k0 bel lt0) (trodAll_cons_mk (Below.trod kit.laidOut (by kernel_rfl) (of_decide_eq_true (by kernel_rfl)) k1 bel lt1) (trodAll_cons_mk (Below.trod kit.laidOut (by kernel_rfl) (of_decide_eq_true (by kernel_rfl)) k2 bel lt2) trodAll_mk0))), rfl, bel.frame _, fun h => by cases h⟩

theorem proved : Rows.FnExactPickSpareSaid :=
  OpenClaim.holds_of_wide 7 Try.f7 rfl rfl rfl rfl rfl rfl rfl ⟨rfl, rfl, rfl, rfl, rfl⟩ rfl rfl rfl rfl rfl (by kernel_rfl) Try.func7 (by kernel_rfl)
    (of_decide_eq_true (by kernel_rfl)) (by unfold Func.isWrapper; first | (rw [if_pos (by decide +kernel)]; kernel_rfl) | (rw [if_neg (by decide +kernel)]; exact ⟨rfl, rfl⟩))
    (fun os started H enc _ => lifted os started H enc)
end Go.Proofs.Ytpdpejlcilnafaa.fnExactPickSpare
