/-
  For every []Place (the law passes over those with more than 2^20 elements) and number, impl's HasRoom returns the same bool as the specification's and leaves its argument as it was: the law returns true and changes nothing that was there. No other condition.
-/
import Derived.Test.YtpdpejlcilnafaaS9Impl
import Derived.Test.YtpdpejlcilnafaaS9Spec
import Derived.Test.YtpdpejlcilnafaaPlas3
import Derived.Deep.RegionWith
import Derived.Deep.DeepCutAuto
namespace Go.Proofs.Ytpdpejlcilnafaa.fnExactHasRoom
open Go.ChangeShapes Go.WideShapes Go.ChangeAt Go.RowKit
open Go.ChangeMaps (open_string shut_string)
set_option linter.unusedVariables false

set_option maxRecDepth 100000 in
set_option maxHeartbeats 16000000 in
theorem walk (a0 : Option Addr) (c0 : Nat) (L0 : List kit.Pla) (a1 : Int) (w : World) (wa0 : kit.AtQ w a0 L0) (wl0 : L0.length ≤ maxLen) (w1 : (Lit.int .i64 a1).wf = true) :
    Calls Try.prog 5 #[.slice a0 L0.length c0, .int .i64 a1] w fun e w' => e = .returned (.bool true) ∧ Below w.heap.size w w' := by
  unfold maxLen at wl0
  have HA0' := Lib.hid (kit.atQ_low wa0)
  have HA0 := Lib.hid wa0
  clear wa0
  have HB := Lib.hid (Below.refl w.heap.size w)
  have hz : w.heap.size ≤ w.heap.size := Nat.le_refl _
  go_enter Try.func5, Try.ntmps5
  go_wp2_with fail
  refine (kit.szPlaceS a0 L0.length c0 (1048576) w (by omega) (by omega) (by omega)).mono ?_
  rintro e w1 ⟨rfl, hw⟩
  subst hw
  by_cases hs1 : ¬ (L0.length : Int) ≤ 1048576
  · rw [if_neg hs1]
    go_wp2_with fail
    go_ret
    exact ⟨rfl, HB.out⟩
  replace hs1 := Decidable.not_not.1 hs1
  rw [if_pos hs1]
  go_wp2_with fail
  refine (kit.toPlaceS a0 c0 L0 w (by omega) HA0.out).mono ?_
  rintro e w2 ⟨u3, rfl, ho, hb⟩
  obtain ⟨yr4, qr4, rfl⟩ := ho.shape
  replace HB := Lib.hid (HB.out.trans (hb.mono hz))
  replace hz := Nat.le_trans hz hb.size
  have HZw2 := Lib.hid hb.size
  replace HA0 := Lib.hid (HA0.out.later hb)
  have HOr4 := Lib.hid ho
  have HUr4 := Lib.hid ho.block
  clear ho
  clear hb
  go_wp2_with fail
  refine (kit.specHasRoom _ (.slice yr4 L0.length qr4) L0 a1 w2 (by omega) HOr4.out).mono ?_
  rintro e w5 ⟨he, hb⟩
  generalize hT1 : kit.roomP L0 a1 = T1 at he
  have HT1 := Lib.hid hT1
  clear hT1
  subst he
  replace HB := Lib.hid (HB.out.trans (hb.mono hz))
  replace hz := Nat.le_trans hz hb.size
  have HZw5 := Lib.hid hb.size
  replace HOr4 := Lib.hid (HOr4.out.later hb)
  replace HA0 := Lib.hid (HA0.out.later hb)
  clear hb
  go_wp2_with fail
  refine (kit.toPlaceS a0 c0 L0 w5 (by omega) HA0.out).mono ?_
  rintro e w6 ⟨u7, rfl, ho, hb⟩
  obtain ⟨yr8, qr8, rfl⟩ := ho.shape
  replace HB := Lib.hid (HB.out.trans (hb.mono hz))
  replace hz := Nat.le_trans hz hb.size
  have HZw6 := Lib.hid hb.size
  replace HOr4 := Lib.hid (HOr4.out.later hb)
  replace HA0 := Lib.hid (HA0.out.later hb)
  have HOr8 := Lib.hid ho
  have HUr8 := Lib.hid ho.block
  clear ho
  clear hb
  go_wp2_with fail
  refine (kit.implHasRoom _ (.slice yr8 L0.length qr8) L0 a1 w6 (by omega) HOr8.out).mono ?_
  rintro e w9 ⟨he, hb⟩
  rw [HT1.out] at he
  subst he
  replace HB := Lib.hid (HB.out.trans (hb.mono hz))
  replace hz := Nat.le_trans hz hb.size
  have HZw9 := Lib.hid hb.size
  replace HOr4 := Lib.hid (HOr4.out.later hb)
  replace HOr8 := Lib.hid (HOr8.out.later hb)
  replace HA0 := Lib.hid (HA0.out.later hb)
  clear hb
  go_wp2_with fail
  refine (kit.toPlaceS a0 c0 L0 w9 (by omega) HA0.out).mono ?_
  rintro e w10 ⟨u11, rfl, ho, hb⟩
  obtain ⟨yr12, qr12, rfl⟩ := ho.shape
  replace HB := Lib.hid (HB.out.trans (hb.mono hz))
  replace hz := Nat.le_trans hz hb.size
  have HZw10 := Lib.hid hb.size
  replace HOr4 := Lib.hid (HOr4.out.later hb)
  replace HOr8 := Lib.hid (HOr8.out.later hb)
  replace HA0 := Lib.hid (HA0.out.later hb)
  have HOr12 := Lib.hid ho
  have HUr12 := Lib.hid ho.block
  clear ho
  clear hb
  go_wp2_with fail
  refine (kit.eqPlaceSO _ _ (.slice yr8 L0.length qr8) (.slice yr12 L0.length qr12) L0 L0 w10 (by omega) (by omega) HOr8.out HOr12.out).mono ?_
  rintro e w13 ⟨he, hb⟩
  rw [decide_eq_true rfl] at he
  subst he
  replace HB := Lib.hid (HB.out.trans (hb.mono hz))
  replace hz := Nat.le_trans hz hb.size
  have HZw13 := Lib.hid hb.size
  replace HOr4 := Lib.hid (HOr4.out.later hb)
  replace HOr8 := Lib.hid (HOr8.out.later hb)
  replace HOr12 := Lib.hid (HOr12.out.later hb)
  replace HA0 := Lib.hid (HA0.out.later hb)
  clear hb
  go_wp2_with fail
  go_ret
  exact ⟨rfl, HB.out⟩
set_option maxRecDepth 100000 in
theorem lifted (os : Os) (started : os.Started) (H : Type) (enc : TypeId × Value → H) :
    ReturnsInHanded {} Try.checked os 5 .any (Rows.fnExactHasRoomSpec.pre6 enc Try.prog Try.f5 Rows.fnExactHasRoomRow.domain false) (Rows.fnExactHasRoomSpec.post enc Try.prog Try.f5 false true false false) := by
  refine returnsInHanded_of_change (C := Try.checked) kit.own started (by kernel_rfl) Try.func5
    (ChangeSpec.witness6 (enc := enc) (C := Try.checked) false ⟨#[], #[.slice none 0 0, .int .i64 0], []⟩ 8 (by kernel_rfl) (by kernel_rfl) (by kernel_rfl) (by kernel_rfl)) ?_
  intro W base args ds gs before hval0 hW hcnd _
  have hval : ∀ (j : Nat) t v, Try.f5.params[j]? = some t → args[j]? = some v → Value.okWide Try.prog W .any base t v := hval0
  have hW' := hW
  obtain ⟨p, q, hA0, hV, rfl, hfz, hnd⟩ := hW
  have hA : DataW.TrodAll enc Try.prog W 0 (fun _ => true) true Try.f5.params.toList args.toList ds p := hA0
  rw [Try.params5] at hA hval
  obtain ⟨v0, vs0, d0, ds0, p0, q0, hargs, rfl, rfl, h0, r0⟩ := trodAll_cons hA
  obtain ⟨v1, vs1, d1, ds1, p1, q1, rfl, rfl, rfl, h1, r1⟩ := trodAll_cons r0
  obtain ⟨rfl, rfl, rfl⟩ := trodAll_nil r1
  obtain rfl : args = #[v0, v1] := by cases args; simp_all
  obtain ⟨rfl, rfl⟩ := trodVars_none hV
  have k0 := h0
  have lt0 : ∀ x ∈ p0, x.block < W.heap.size := by obtain ⟨m, hm⟩ := k0; exact DataW.trod_lt m _ _ _ hm
  obtain ⟨a0, len0, cap0, rfl⟩ := okWide_slice Try.underlying41 (hval 0 41 v0 rfl rfl)
  obtain ⟨a0', c0, L0, he0, wa0, wl0⟩ := kit.open_plaV h0 lt0 rfl
  injection he0 with he0a he0b he0c
  subst he0a he0b he0c
  obtain ⟨a1, rfl, rfl, rfl, w1⟩ := open_int Try.underlying3 (hval 1 3 v1 rfl rfl) h1
  clear hA0 hval0
  refine (walk _ _ L0 a1 W wa0 wl0 w1).mono fun e W' ⟨he, bel⟩ => ?_
  subst he
  exact ⟨_, rfl, _, _, _, [], _, [], hW', trodAll_mk1 (shut_bool Try.underlying4 _), (trodAll_cons_mk (Below.trod kit.laidOut (by kernel_rfl) (of_decide_eq_true (by kernel_rfl)) k0 bel lt0) (trodAll_cons_mk (shut_int Try.underlying3 w1) trodAll_mk0)), rfl, bel.frame _, fun h => by cases h⟩

theorem proved : Rows.FnExactHasRoomSaid :=
  OpenClaim.holds_of_wide 5 Try.f5 rfl rfl rfl rfl rfl rfl rfl ⟨rfl, rfl, rfl, rfl, rfl⟩ rfl rfl rfl rfl rfl (by kernel_rfl) Try.func5 (by kernel_rfl)
    (of_decide_eq_true (by kernel_rfl)) (by unfold Func.isWrapper; first | (rw [if_pos (by decide +kernel)]; kernel_rfl) | (rw [if_neg (by decide +kernel)]; exact ⟨rfl, rfl⟩))
    (fun os started H enc _ => lifted os started H enc)
end Go.Proofs.Ytpdpejlcilnafaa.fnExactHasRoom
