/-
  For every value of the type Op, impl's IsValidOp returns the same bool as the specification's: the law returns true and changes nothing that was there. No condition.
-/
import Derived.Test.YtdkmcngpjiijkaaS3Impl
namespace Go.Proofs.Ytdkmcngpjiijkaa.fnExactIsValidOp
open Go.ChangeShapes Go.WideShapes Go.ChangeAt Go.RowKit
set_option linter.unusedVariables false

set_option maxRecDepth 100000 in
set_option maxHeartbeats 8000000 in
theorem walk (a0_0 : Int) (a0_1 : Int) (a0_2 : Int) (a0_3 : Int) (a0_4 : Int) (a0_5 : Int) (w : World) (w0 : (Lit.int .i64 a0_0).wf = true ∧ (Lit.int .i64 a0_1).wf = true ∧ (Lit.int .i64 a0_2).wf = true ∧ (Lit.int .i64 a0_3).wf = true ∧ (Lit.int .i64 a0_4).wf = true ∧ (Lit.int .i64 a0_5).wf = true) :
    Calls Try.prog 3 #[.agg #[.int .i64 a0_0, .int .i64 a0_1, .int .i64 a0_2, .int .i64 a0_3, .int .i64 a0_4, .int .i64 a0_5]] w fun e w' => e = .returned (.bool true) ∧ Below w.heap.size w w' := by
  have HB := Lib.hid ((Below.refl w.heap.size w).alloc (by simp; try omega) (.cells #[.int .i64 a0_0, .int .i64 a0_1, .int .i64 a0_2, .int .i64 a0_3, .int .i64 a0_4, .int .i64 a0_5] 23))
  have hz0 : w.heap.size ≤ (w.alloc (.cells #[.int .i64 a0_0, .int .i64 a0_1, .int .i64 a0_2, .int .i64 a0_3, .int .i64 a0_4, .int .i64 a0_5] 23)).heap.size := by simp; try omega
  have HB1 := Lib.hid (Below.refl (w.alloc (.cells #[.int .i64 a0_0, .int .i64 a0_1, .int .i64 a0_2, .int .i64 a0_3, .int .i64 a0_4, .int .i64 a0_5] 23)).heap.size (w.alloc (.cells #[.int .i64 a0_0, .int .i64 a0_1, .int .i64 a0_2, .int .i64 a0_3, .int .i64 a0_4, .int .i64 a0_5] 23)))
  have hzz0 : (w.alloc (.cells #[.int .i64 a0_0, .int .i64 a0_1, .int .i64 a0_2, .int .i64 a0_3, .int .i64 a0_4, .int .i64 a0_5] 23)).heap.size ≤ (w.alloc (.cells #[.int .i64 a0_0, .int .i64 a0_1, .int .i64 a0_2, .int .i64 a0_3, .int .i64 a0_4, .int .i64 a0_5] 23)).heap.size := Nat.le_refl _
  go_enter Try.func3, Try.ntmps3
  go_wp2_with fail
  refine (kit.toOp a0_0 a0_1 a0_2 a0_3 a0_4 a0_5 (w.alloc (.cells #[.int .i64 a0_0, .int .i64 a0_1, .int .i64 a0_2, .int .i64 a0_3, .int .i64 a0_4, .int .i64 a0_5] 23))).mono ?_
  rintro e wx1 ⟨rfl, hb⟩
  have hz1 : w.heap.size ≤ wx1.heap.size := Nat.le_trans hz0 hb.size
  have hy1 : (w.alloc (.cells #[.int .i64 a0_0, .int .i64 a0_1, .int .i64 a0_2, .int .i64 a0_3, .int .i64 a0_4, .int .i64 a0_5] 23)).heap.size ≤ wx1.heap.size := hb.size
  replace HB := Lib.hid (HB.out.trans (hb.mono hz0))
  replace HB1 := Lib.hid (HB1.out.trans (hb.mono hzz0))
  have hzz1 : (w.alloc (.cells #[.int .i64 a0_0, .int .i64 a0_1, .int .i64 a0_2, .int .i64 a0_3, .int .i64 a0_4, .int .i64 a0_5] 23)).heap.size ≤ wx1.heap.size := Nat.le_trans hzz0 hb.size
  obtain ⟨hcc, hfz⟩ := kit.bcell HB1.out
  clear hb
  go_wp2_with fail
  refine (kit.specIsValidOp a0_0 a0_1 a0_2 a0_3 a0_4 a0_5 wx1 ).mono ?_
  rintro e wx2 ⟨he, hb⟩
  generalize hT1 : kit.okOp a0_0 a0_1 a0_2 a0_3 a0_4 a0_5 = T1 at he
  have HT1 := Lib.hid hT1
  clear hT1
  subst he
  have hz2 : w.heap.size ≤ wx2.heap.size := Nat.le_trans hz1 hb.size
  have hy2 : wx1.heap.size ≤ wx2.heap.size := hb.size
  replace HB := Lib.hid (HB.out.trans (hb.mono hz1))
  replace HB1 := Lib.hid (HB1.out.trans (hb.mono hzz1))
  have hzz2 : (w.alloc (.cells #[.int .i64 a0_0, .int .i64 a0_1, .int .i64 a0_2, .int .i64 a0_3, .int .i64 a0_4, .int .i64 a0_5] 23)).heap.size ≤ wx2.heap.size := Nat.le_trans hzz1 hb.size
  clear hcc hfz
  obtain ⟨hcc, hfz⟩ := kit.bcell HB1.out
  clear hb
  go_wp2_with fail
  refine (kit.toOp a0_0 a0_1 a0_2 a0_3 a0_4 a0_5 wx2).mono ?_
  rintro e wx3 ⟨rfl, hb⟩
  have hz3 : w.heap.size ≤ wx3.heap.size := Nat.le_trans hz2 hb.size
  have hy3 : wx2.heap.size ≤ wx3.heap.size := hb.size
  replace HB := Lib.hid (HB.out.trans (hb.mono hz2))
  replace HB1 := Lib.hid (HB1.out.trans (hb.mono hzz2))
  have hzz3 : (w.alloc (.cells #[.int .i64 a0_0, .int .i64 a0_1, .int .i64 a0_2, .int .i64 a0_3, .int .i64 a0_4, .int .i64 a0_5] 23)).heap.size ≤ wx3.heap.size := Nat.le_trans hzz2 hb.size
  clear hcc hfz
  obtain ⟨hcc, hfz⟩ := kit.bcell HB1.out
  clear hb
  go_wp2_with fail
  refine (kit.implIsValidOp a0_0 a0_1 a0_2 a0_3 a0_4 a0_5 wx3 ).mono ?_
  rintro e wx4 ⟨he, hb⟩
  rw [HT1.out] at he
  subst he
  have hz4 : w.heap.size ≤ wx4.heap.size := Nat.le_trans hz3 hb.size
  have hy4 : wx3.heap.size ≤ wx4.heap.size := hb.size
  replace HB := Lib.hid (HB.out.trans (hb.mono hz3))
  replace HB1 := Lib.hid (HB1.out.trans (hb.mono hzz3))
  have hzz4 : (w.alloc (.cells #[.int .i64 a0_0, .int .i64 a0_1, .int .i64 a0_2, .int .i64 a0_3, .int .i64 a0_4, .int .i64 a0_5] 23)).heap.size ≤ wx4.heap.size := Nat.le_trans hzz3 hb.size
  clear hcc hfz
  obtain ⟨hcc, hfz⟩ := kit.bcell HB1.out
  clear hb
  go_wp2_with fail
  go_ret
  exact ⟨rfl, HB.out⟩
set_option maxRecDepth 100000 in
theorem lifted (os : Os) (started : os.Started) (H : Type) (enc : TypeId × Value → H) :
    ReturnsInHanded {} Try.checked os 3 .any (Rows.fnExactIsValidOpSpec.pre6 enc Try.prog Try.f3 Rows.fnExactIsValidOpRow.domain false) (Rows.fnExactIsValidOpSpec.post enc Try.prog Try.f3 false true false false) := by
  refine returnsInHanded_of_change (C := Try.checked) kit.own started (by kernel_rfl) Try.func3
    (ChangeSpec.witness6 (enc := enc) (C := Try.checked) false ⟨#[], #[.agg #[.int .i64 0, .int .i64 0, .int .i64 0, .int .i64 0, .int .i64 0, .int .i64 0]], []⟩ 8 (by kernel_rfl) (by kernel_rfl) (by kernel_rfl) (by kernel_rfl)) ?_
  intro W base args ds gs before hval0 hW hcnd _
  have hval : ∀ (j : Nat) t v, Try.f3.params[j]? = some t → args[j]? = some v → Value.okWide Try.prog W .any base t v := hval0
  have hW' := hW
  obtain ⟨p, q, hA0, hV, rfl, hfz, hnd⟩ := hW
  have hA : DataW.TrodAll enc Try.prog W 0 (fun _ => true) true Try.f3.params.toList args.toList ds p := hA0
  rw [Try.params3] at hA hval
  obtain ⟨v0, vs0, d0, ds0, p0, q0, hargs, rfl, rfl, h0, r0⟩ := trodAll_cons hA
  obtain ⟨rfl, rfl, rfl⟩ := trodAll_nil r0
  obtain rfl : args = #[v0] := by cases args; simp_all
  obtain ⟨rfl, rfl⟩ := trodVars_none hV
  obtain ⟨x0_0, x0_1, x0_2, x0_3, x0_4, x0_5, rfl, rfl, rfl, w0⟩ := kit.open_six Try.underlying23 (by kernel_rfl) (by kernel_rfl) Try.underlying3 (by simp) (hval 0 23 v0 rfl rfl) h0
  clear hA0 hval0
  refine (walk x0_0 x0_1 x0_2 x0_3 x0_4 x0_5 W w0).mono fun e W' ⟨he, bel⟩ => ?_
  subst he
  exact ⟨_, rfl, _, _, _, [], _, [], hW', trodAll_mk1 (shut_bool Try.underlying4 _), (trodAll_cons_mk (kit.shut_six Try.underlying23 (by kernel_rfl) (by kernel_rfl) Try.underlying3 (by simp) w0) trodAll_mk0), rfl, bel.frame _, fun h => by cases h⟩

theorem proved : Rows.FnExactIsValidOpSaid :=
  OpenClaim.holds_of_wide 3 Try.f3 rfl rfl rfl rfl rfl rfl rfl ⟨rfl, rfl, rfl, rfl, rfl⟩ rfl rfl rfl rfl rfl (by kernel_rfl) Try.func3 (by kernel_rfl)
    (of_decide_eq_true (by kernel_rfl)) (by unfold Func.isWrapper; first | (rw [if_pos (by decide +kernel)]; kernel_rfl) | (rw [if_neg (by decide +kernel)]; exact ⟨rfl, rfl⟩))
    (fun os started H enc _ => lifted os started H enc)
end Go.Proofs.Ytdkmcngpjiijkaa.fnExactIsValidOp
