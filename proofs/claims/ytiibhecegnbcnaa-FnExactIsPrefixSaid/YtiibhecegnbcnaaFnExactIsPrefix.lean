/-
  For every two []Entry (the law passes over those with more than 2^20 entries together), impl's IsPrefix returns the same bool as the specification's and leaves its arguments as they were: the law returns true and changes nothing that was there. No condition.
-/
import Derived.Test.YtiibhecegnbcnaaS5Pre
import Derived.Deep.RegionWith
namespace Go.Proofs.Ytiibhecegnbcnaa.fnExactIsPrefix
open Go.ChangeShapes Go.WideShapes Go.ChangeAt Go.RowKit
set_option linter.unusedVariables false

set_option maxRecDepth 100000 in
set_option maxHeartbeats 16000000 in
theorem walk (a0 : Option Addr) (c0 : Nat) (L0 : List kit.Ent) (a1 : Option Addr) (c1 : Nat) (L1 : List kit.Ent) (w : World) (wa0 : kit.AtE w a0 L0) (wl0 : L0.length ≤ maxLen) (wa1 : kit.AtE w a1 L1) (wl1 : L1.length ≤ maxLen) :
    Calls Try.prog 9 #[.slice a0 L0.length c0, .slice a1 L1.length c1] w fun e w' => e = .returned (.bool true) ∧ Below w.heap.size w w' := by
  unfold maxLen at wl0
  have HA0' := Lib.hid (kit.atE_low wa0)
  have HA0 := Lib.hid wa0
  clear wa0
  unfold maxLen at wl1
  have HA1' := Lib.hid (kit.atE_low wa1)
  have HA1 := Lib.hid wa1
  clear wa1
  have HB := Lib.hid (Below.refl w.heap.size w)
  have hz : w.heap.size ≤ w.heap.size := Nat.le_refl _
  go_enter Try.func9, Try.ntmps9
  go_wp2_with fail
  refine (kit.szEntryS a0 L0.length c0 (1048576) w (by omega) (by omega) (by omega)).mono ?_
  rintro e w1 ⟨rfl, hw⟩
  subst hw
  by_cases hs1 : ¬ (L0.length : Int) ≤ 1048576
  · rw [if_neg hs1]
    go_wp2_with fail
    go_ret
    exact ⟨rfl, HB.out⟩
  replace hs1 := Decidable.not_not.1 hs1
  rw [if_pos hs1]
  go_wp2_with fail
  refine (kit.szEntryS a1 L1.length c1 (1048576 - (L0.length : Int)) w (by omega) (by omega) (by omega)).mono ?_
  rintro e w2 ⟨rfl, hw⟩
  subst hw
  by_cases hs2 : ¬ (L1.length : Int) ≤ 1048576 - (L0.length : Int)
  · rw [if_neg hs2]
    go_wp2_with fail
    go_ret
    exact ⟨rfl, HB.out⟩
  replace hs2 := Decidable.not_not.1 hs2
  rw [if_pos hs2]
  go_wp2_with fail
  refine (kit.toEntryS a0 c0 L0 w (by omega) HA0.out).mono ?_
  rintro e w3 ⟨u4, rfl, ho, hb⟩
  obtain ⟨yr5, qr5, rfl⟩ := ho.shape
  replace HB := Lib.hid (HB.out.trans (hb.mono hz))
  replace hz := Nat.le_trans hz hb.size
  have HZw3 := Lib.hid hb.size
  replace HA0 := Lib.hid (HA0.out.later hb)
  replace HA1 := Lib.hid (HA1.out.later hb)
  have HOr5 := Lib.hid ho
  have HUr5 := Lib.hid ho.block
  clear ho
  clear hb
  go_wp2_with fail
  refine (kit.toEntryS a1 c1 L1 w3 (by omega) HA1.out).mono ?_
  rintro e w6 ⟨u7, rfl, ho, hb⟩
  obtain ⟨yr8, qr8, rfl⟩ := ho.shape
  replace HB := Lib.hid (HB.out.trans (hb.mono hz))
  replace hz := Nat.le_trans hz hb.size
  have HZw6 := Lib.hid hb.size
  replace HOr5 := Lib.hid (HOr5.out.later hb)
  replace HA0 := Lib.hid (HA0.out.later hb)
  replace HA1 := Lib.hid (HA1.out.later hb)
  have HOr8 := Lib.hid ho
  have HUr8 := Lib.hid ho.block
  clear ho
  clear hb
  go_wp2_with fail
  refine (kit.specIsPrefix _ (.slice yr5 L0.length qr5) L0 _ (.slice yr8 L1.length qr8) L1 w6 (by omega) HOr5.out (by omega) HOr8.out).mono ?_
  rintro e w9 ⟨he, hb⟩
  generalize hT1 : kit.isPre L0 L1 = T1 at he
  have HT1 := Lib.hid hT1
  clear hT1
  subst he
  replace HB := Lib.hid (HB.out.trans (hb.mono hz))
  replace hz := Nat.le_trans hz hb.size
  have HZw9 := Lib.hid hb.size
  replace HOr5 := Lib.hid (HOr5.out.later hb)
  replace HOr8 := Lib.hid (HOr8.out.later hb)
  replace HA0 := Lib.hid (HA0.out.later hb)
  replace HA1 := Lib.hid (HA1.out.later hb)
  clear hb
  go_wp2_with fail
  refine (kit.toEntryS a0 c0 L0 w9 (by omega) HA0.out).mono ?_
  rintro e w10 ⟨u11, rfl, ho, hb⟩
  obtain ⟨yr12, qr12, rfl⟩ := ho.shape
  replace HB := Lib.hid (HB.out.trans (hb.mono hz))
  replace hz := Nat.le_trans hz hb.size
  have HZw10 := Lib.hid hb.size
  replace HOr5 := Lib.hid (HOr5.out.later hb)
  replace HOr8 := Lib.hid (HOr8.out.later hb)
  replace HA0 := Lib.hid (HA0.out.later hb)
  replace HA1 := Lib.hid (HA1.out.later hb)
  have HOr12 := Lib.hid ho
  have HUr12 := Lib.hid ho.block
  clear ho
  clear hb
  go_wp2_with fail
  refine (kit.toEntryS a1 c1 L1 w10 (by omega) HA1.out).mono ?_
  rintro e w13 ⟨u14, rfl, ho, hb⟩
  obtain ⟨yr15, qr15, rfl⟩ := ho.shape
  replace HB := Lib.hid (HB.out.trans (hb.mono hz))
  replace hz := Nat.le_trans hz hb.size
  have HZw13 := Lib.hid hb.size
  replace HOr5 := Lib.hid (HOr5.out.later hb)
  replace HOr8 := Lib.hid (HOr8.out.later hb)
  replace HOr12 := Lib.hid (HOr12.out.later hb)
  replace HA0 := Lib.hid (HA0.out.later hb)
  replace HA1 := Lib.hid (HA1.out.later hb)
  have HOr15 := Lib.hid ho
  have HUr15 := Lib.hid ho.block
  clear ho
  clear hb
  go_wp2_with fail
  refine (kit.implIsPrefix _ (.slice yr12 L0.length qr12) L0 _ (.slice yr15 L1.length qr15) L1 w13 (by omega) HOr12.out (by omega) HOr15.out).mono ?_
  rintro e w16 ⟨he, hb⟩
  rw [HT1.out] at he
  subst he
  replace HB := Lib.hid (HB.out.trans (hb.mono hz))
  replace hz := Nat.le_trans hz hb.size
  have HZw16 := Lib.hid hb.size
  replace HOr5 := Lib.hid (HOr5.out.later hb)
  replace HOr8 := Lib.hid (HOr8.out.later hb)
  replace HOr12 := Lib.hid (HOr12.out.later hb)
  replace HOr15 := Lib.hid (HOr15.out.later hb)
  replace HA0 := Lib.hid (HA0.out.later hb)
  replace HA1 := Lib.hid (HA1.out.later hb)
  clear hb
  go_wp2_with fail
  refine (kit.toEntryS a0 c0 L0 w16 (by omega) HA0.out).mono ?_
  rintro e w17 ⟨u18, rfl, ho, hb⟩
  obtain ⟨yr19, qr19, rfl⟩ := ho.shape
  replace HB := Lib.hid (HB.out.trans (hb.mono hz))
  replace hz := Nat.le_trans hz hb.size
  have HZw17 := Lib.hid hb.size
  replace HOr5 := Lib.hid (HOr5.out.later hb)
  replace HOr8 := Lib.hid (HOr8.out.later hb)
  replace HOr12 := Lib.hid (HOr12.out.later hb)
  replace HOr15 := Lib.hid (HOr15.out.later hb)
  replace HA0 := Lib.hid (HA0.out.later hb)
  replace HA1 := Lib.hid (HA1.out.later hb)
  have HOr19 := Lib.hid ho
  have HUr19 := Lib.hid ho.block
  clear ho
  clear hb
  go_wp2_with fail
  refine (kit.eqEntrySO _ _ (.slice yr12 L0.length qr12) (.slice yr19 L0.length qr19) L0 L0 w17 (by omega) (by omega) HOr12.out HOr19.out).mono ?_
  rintro e w20 ⟨he, hb⟩
  rw [decide_eq_true rfl] at he
  subst he
  replace HB := Lib.hid (HB.out.trans (hb.mono hz))
  replace hz := Nat.le_trans hz hb.size
  have HZw20 := Lib.hid hb.size
  replace HOr5 := Lib.hid (HOr5.out.later hb)
  replace HOr8 := Lib.hid (HOr8.out.later hb)
  replace HOr12 := Lib.hid (HOr12.out.later hb)
  replace HOr15 := Lib.hid (HOr15.out.later hb)
  replace HOr19 := Lib.hid (HOr19.out.later hb)
  replace HA0 := Lib.hid (HA0.out.later hb)
  replace HA1 := Lib.hid (HA1.out.later hb)
  clear hb
  go_wp2_with fail
  refine (kit.toEntryS a1 c1 L1 w20 (by omega) HA1.out).mono ?_
  rintro e w21 ⟨u22, rfl, ho, hb⟩
  obtain ⟨yr23, qr23, rfl⟩ := ho.shape
  replace HB := Lib.hid (HB.out.trans (hb.mono hz))
  replace hz := Nat.le_trans hz hb.size
  have HZw21 := Lib.hid hb.size
  replace HOr5 := Lib.hid (HOr5.out.later hb)
  replace HOr8 := Lib.hid (HOr8.out.later hb)
  replace HOr12 := Lib.hid (HOr12.out.later hb)
  replace HOr15 := Lib.hid (HOr15.out.later hb)
  replace HOr19 := Lib.hid (HOr19.out.later hb)
  replace HA0 := Lib.hid (HA0.out.later hb)
  replace HA1 := Lib.hid (HA1.out.later hb)
  have HOr23 := Lib.hid ho
  have HUr23 := Lib.hid ho.block
  clear ho
  clear hb
  go_wp2_with fail
  refine (kit.eqEntrySO _ _ (.slice yr15 L1.length qr15) (.slice yr23 L1.length qr23) L1 L1 w21 (by omega) (by omega) HOr15.out HOr23.out).mono ?_
  rintro e w24 ⟨he, hb⟩
  rw [decide_eq_true rfl] at he
  subst he
  replace HB := Lib.hid (HB.out.trans (hb.mono hz))
  replace hz := Nat.le_trans hz hb.size
  have HZw24 := Lib.hid hb.size
  replace HOr5 := Lib.hid (HOr5.out.later hb)
  replace HOr8 := Lib.hid (HOr8.out.later hb)
  replace HOr12 := Lib.hid (HOr12.out.later hb)
  replace HOr15 := Lib.hid (HOr15.out.later hb)
  replace HOr19 := Lib.hid (HOr19.out.later hb)
  replace HOr23 := Lib.hid (HOr23.out.later hb)
  replace HA0 := Lib.hid (HA0.out.later hb)
  replace HA1 := Lib.hid (HA1.out.later hb)
  clear hb
  go_wp2_with fail
  go_ret
  exact ⟨rfl, HB.out⟩
set_option maxRecDepth 100000 in
theorem lifted (os : Os) (started : os.Started) (H : Type) (enc : TypeId × Value → H) :
    ReturnsInHanded {} Try.checked os 9 .any (Rows.fnExactIsPrefixSpec.pre6 enc Try.prog Try.f9 Rows.fnExactIsPrefixRow.domain false) (Rows.fnExactIsPrefixSpec.post enc Try.prog Try.f9 false true false false) := by
  refine returnsInHanded_of_change (C := Try.checked) kit.own started (by kernel_rfl) Try.func9
    (ChangeSpec.witness6 (enc := enc) (C := Try.checked) false ⟨#[], #[.slice none 0 0, .slice none 0 0], []⟩ 8 (by kernel_rfl) (by kernel_rfl) (by kernel_rfl) (by kernel_rfl)) ?_
  intro W base args ds gs before hval0 hW hcnd _
  have hval : ∀ (j : Nat) t v, Try.f9.params[j]? = some t → args[j]? = some v → Value.okWide Try.prog W .any base t v := hval0
  have hW' := hW
  obtain ⟨p, q, hA0, hV, rfl, hfz, hnd⟩ := hW
  have hA : DataW.TrodAll enc Try.prog W 0 (fun _ => true) true Try.f9.params.toList args.toList ds p := hA0
  rw [Try.params9] at hA hval
  obtain ⟨v0, vs0, d0, ds0, p0, q0, hargs, rfl, rfl, h0, r0⟩ := trodAll_cons hA
  obtain ⟨v1, vs1, d1, ds1, p1, q1, rfl, rfl, rfl, h1, r1⟩ := trodAll_cons r0
  obtain ⟨rfl, rfl, rfl⟩ := trodAll_nil r1
  obtain rfl : args = #[v0, v1] := by cases args; simp_all
  obtain ⟨rfl, rfl⟩ := trodVars_none hV
  have k0 := h0
  have lt0 : ∀ x ∈ p0, x.block < W.heap.size := by obtain ⟨m, hm⟩ := k0; exact DataW.trod_lt m _ _ _ hm
  obtain ⟨a0, len0, cap0, rfl⟩ := okWide_slice Try.underlying72 (hval 0 72 v0 rfl rfl)
  obtain ⟨a0', c0, L0, he0, wa0, wl0⟩ := kit.open_entV h0 lt0 rfl
  injection he0 with he0a he0b he0c
  subst he0a he0b he0c
  have k1 := h1
  have lt1 : ∀ x ∈ p1, x.block < W.heap.size := by obtain ⟨m, hm⟩ := k1; exact DataW.trod_lt m _ _ _ hm
  obtain ⟨a1, len1, cap1, rfl⟩ := okWide_slice Try.underlying72 (hval 1 72 v1 rfl rfl)
  obtain ⟨a1', c1, L1, he1, wa1, wl1⟩ := kit.open_entV h1 lt1 rfl
  injection he1 with he1a he1b he1c
  subst he1a he1b he1c
  clear hA0 hval0
  refine (walk _ _ L0 _ _ L1 W wa0 wl0 wa1 wl1).mono fun e W' ⟨he, bel⟩ => ?_
  subst he
  exact ⟨_, rfl, _, _, _, [], _, [], hW', trodAll_mk1 (shut_bool Try.underlying4 _), (trodAll_cons_mk (Below.trod kit.laidOut (by kernel_rfl) (of_decide_eq_true (by kernel_rfl)) k0 bel lt0) (trodAll_cons_mk (Below.trod kit.laidOut (by kernel_rfl) (of_decide_eq_true (by kernel_rfl)) k1 bel lt1) trodAll_mk0)), rfl, bel.frame _, fun h => by cases h⟩

theorem proved : Rows.FnExactIsPrefixSaid :=
  OpenClaim.holds_of_wide 9 Try.f9 rfl rfl rfl rfl rfl rfl rfl ⟨rfl, rfl, rfl, rfl, rfl⟩ rfl rfl rfl rfl rfl (by kernel_rfl) Try.func9 (by kernel_rfl)
    (of_decide_eq_true (by kernel_rfl)) (by unfold Func.isWrapper; first | (rw [if_pos (by decide +kernel)]; kernel_rfl) | (rw [if_neg (by decide +kernel)]; exact ⟨rfl, rfl⟩))
    (fun os started H enc _ => lifted os started H enc)
end Go.Proofs.Ytiibhecegnbcnaa.fnExactIsPrefix
