/-
  For every value of the type Op, impl's FormatOp returns the same string as the specification's: the law returns true and changes nothing that was there. The card ties the library's listed tables to the program's text. No condition.
-/
import Derived.Test.YtdkmcngpjiijkaaDoorKitLaid
import Derived.Test.YtdkmcngpjiijkaaDoorS3Fmt
import Derived.Test.YtdkmcngpjiijkaaDoorCards
import Derived.Test.YtdkmcngpjiijkaaDoorTie
namespace Go.Proofs.YtdkmcngpjiijkaaDoor.fnExactFormatOp
open Go.ChangeShapes Go.WideShapes Go.ChangeAt Go.RowKit
open Go.ChangeMaps (open_string shut_string)
set_option linter.unusedVariables false

set_option maxRecDepth 100000 in
set_option maxHeartbeats 8000000 in
theorem walk (a0_0 : Int) (a0_1 : Int) (a0_2 : Int) (a0_3 : Int) (a0_4 : Int) (a0_5 : Int) (w : World) (w0 : (Lit.int .i64 a0_0).wf = true ∧ (Lit.int .i64 a0_1).wf = true ∧ (Lit.int .i64 a0_2).wf = true ∧ (Lit.int .i64 a0_3).wf = true ∧ (Lit.int .i64 a0_4).wf = true ∧ (Lit.int .i64 a0_5).wf = true) (hT : kit.Tab w) :
    Calls Tryd.prog 3 #[.agg #[.int .i64 a0_0, .int .i64 a0_1, .int .i64 a0_2, .int .i64 a0_3, .int .i64 a0_4, .int .i64 a0_5]] w fun e w' => e = .returned (.bool true) ∧ Below w.heap.size w w' := by
  have HB := Lib.hid ((Below.refl w.heap.size w).alloc (by simp; try omega) (.cells #[.int .i64 a0_0, .int .i64 a0_1, .int .i64 a0_2, .int .i64 a0_3, .int .i64 a0_4, .int .i64 a0_5] 23))
  have hz0 : w.heap.size ≤ (w.alloc (.cells #[.int .i64 a0_0, .int .i64 a0_1, .int .i64 a0_2, .int .i64 a0_3, .int .i64 a0_4, .int .i64 a0_5] 23)).heap.size := by simp; try omega
  have HB1 := Lib.hid (Below.refl (w.alloc (.cells #[.int .i64 a0_0, .int .i64 a0_1, .int .i64 a0_2, .int .i64 a0_3, .int .i64 a0_4, .int .i64 a0_5] 23)).heap.size (w.alloc (.cells #[.int .i64 a0_0, .int .i64 a0_1, .int .i64 a0_2, .int .i64 a0_3, .int .i64 a0_4, .int .i64 a0_5] 23)))
  have hzz0 : (w.alloc (.cells #[.int .i64 a0_0, .int .i64 a0_1, .int .i64 a0_2, .int .i64 a0_3, .int .i64 a0_4, .int .i64 a0_5] 23)).heap.size ≤ (w.alloc (.cells #[.int .i64 a0_0, .int .i64 a0_1, .int .i64 a0_2, .int .i64 a0_3, .int .i64 a0_4, .int .i64 a0_5] 23)).heap.size := Nat.le_refl _
  go_enter Tryd.func3, Tryd.ntmps3
  go_wp2_with fail
  refine (kit.toOp a0_0 a0_1 a0_2 a0_3 a0_4 a0_5 (w.alloc (.cells #[.int .i64 a0_0, .int .i64 a0_1, .int .i64 a0_2, .int .i64 a0_3, .int .i64 a0_4, .int .i64 a0_5] 23))).mono ?_
  rintro e wx1 ⟨rfl, hb⟩
  have hz1 : w.heap.size ≤ wx1.heap.size := Nat.le_trans hz0 hb.size
  have hy1 : (w.alloc (.cells #[.int .i64 a0_0, .int .i64 a0_1, .int .i64 a0_2, .int .i64 a0_3, .int .i64 a0_4, .int .i64 a0_5] 23)).heap.size ≤ wx1.heap.size := hb.size
  replace HB := Lib.hid (HB.out.trans (hb.mono hz0))
  replace HB1 := Lib.hid (HB1.out.trans (hb.mono hzz0))
  have hzz1 : (w.alloc (.cells #[.int .i64 a0_0, .int .i64 a0_1, .int .i64 a0_2, .int .i64 a0_3, .int .i64 a0_4, .int .i64 a0_5] 23)).heap.size ≤ wx1.heap.size := Nat.le_trans hzz0 hb.size
  obtain ⟨hcc, hfz⟩ := kit.bcell HB1.out
  clear hb
  go_wp2_with fail
  refine (kit.specFormatOp a0_0 a0_1 a0_2 a0_3 a0_4 a0_5 wx1 ).mono ?_
  rintro e wx2 ⟨he, hb⟩
  unfold kit.str at he
  generalize hT1 : (⟨(kit.fmtO a0_0 a0_1 a0_2 a0_3 a0_4 a0_5).toArray⟩ : ByteArray) = T1 at he
  have HT1 := Lib.hid hT1
  clear hT1
  subst he
  have hz2 : w.heap.size ≤ wx2.heap.size := Nat.le_trans hz1 hb.size
  have hy2 : wx1.heap.size ≤ wx2.heap.size := hb.size
  replace HB := Lib.hid (HB.out.trans (hb.mono hz1))
  replace HB1 := Lib.hid (HB1.out.trans (hb.mono hzz1))
  have hzz2 : (w.alloc (.cells #[.int .i64 a0_0, .int .i64 a0_1, .int .i64 a0_2, .int .i64 a0_3, .int .i64 a0_4, .int .i64 a0_5] 23)).heap.size ≤ wx2.heap.size := Nat.le_trans hzz1 hb.size
  clear hcc hfz
  obtain ⟨hcc, hfz⟩ := kit.bcell HB1.out
  clear hb
  go_wp2_with fail
  refine (kit.toOp a0_0 a0_1 a0_2 a0_3 a0_4 a0_5 wx2).mono ?_
  rintro e wx3 ⟨rfl, hb⟩
  have hz3 : w.heap.size ≤ wx3.heap.size := Nat.le_trans hz2 hb.size
  have hy3 : wx2.heap.size ≤ wx3.heap.size := hb.size
  replace HB := Lib.hid (HB.out.trans (hb.mono hz2))
  replace HB1 := Lib.hid (HB1.out.trans (hb.mono hzz2))
  have hzz3 : (w.alloc (.cells #[.int .i64 a0_0, .int .i64 a0_1, .int .i64 a0_2, .int .i64 a0_3, .int .i64 a0_4, .int .i64 a0_5] 23)).heap.size ≤ wx3.heap.size := Nat.le_trans hzz2 hb.size
  clear hcc hfz
  obtain ⟨hcc, hfz⟩ := kit.bcell HB1.out
  clear hb
  go_wp2_with fail
  refine (kit.implFormatOp a0_0 a0_1 a0_2 a0_3 a0_4 a0_5 wx3 (hT.below HB.out)).mono ?_
  rintro e wx4 ⟨he, hb⟩
  unfold kit.str at he
  rw [HT1.out] at he
  subst he
  have hz4 : w.heap.size ≤ wx4.heap.size := Nat.le_trans hz3 hb.size
  have hy4 : wx3.heap.size ≤ wx4.heap.size := hb.size
  replace HB := Lib.hid (HB.out.trans (hb.mono hz3))
  replace HB1 := Lib.hid (HB1.out.trans (hb.mono hzz3))
  have hzz4 : (w.alloc (.cells #[.int .i64 a0_0, .int .i64 a0_1, .int .i64 a0_2, .int .i64 a0_3, .int .i64 a0_4, .int .i64 a0_5] 23)).heap.size ≤ wx4.heap.size := Nat.le_trans hzz3 hb.size
  clear hcc hfz
  obtain ⟨hcc, hfz⟩ := kit.bcell HB1.out
  clear hb
  go_wp2_with fail
  go_ret
  exact ⟨rfl, HB.out⟩
theorem contract (H : Type) (enc : TypeId × Value → H) (W : World) (base : Nat) (args : Array Value) (ds gs : List (DataW H)) (before : List MemPlace)
    (hval0 : ∀ (j : Nat) t v, Tryd.f3.params[j]? = some t → args[j]? = some v → Value.okWide Tryd.prog W .any base t v)
    (hW : DataW.Whole enc Tryd.prog Tryd.f3.params.toList Rows.fnExactFormatOpSpec.vars false W args.toList ds gs before) (hL : laidMetH Tryd.prog Rows.fnExactFormatOpRow.laid W) :
    Calls Tryd.prog 3 args W fun e W' => ∃ v, e = .returned v ∧ Rows.fnExactFormatOpSpec.post enc Tryd.prog Tryd.f3 false true false false W args v W' := by
  have hT : kit.Tab W := kit.tab_of_laid (by kernel_rfl) hL
  have hval : ∀ (j : Nat) t v, Tryd.f3.params[j]? = some t → args[j]? = some v → Value.okWide Tryd.prog W .any base t v := hval0
  have hW' := hW
  obtain ⟨p, q, hA0, hV, rfl, hfz, hnd⟩ := hW
  have hA : DataW.TrodAll enc Tryd.prog W 0 (fun _ => true) true Tryd.f3.params.toList args.toList ds p := hA0
  rw [Tryd.params3] at hA hval
  obtain ⟨v0, vs0, d0, ds0, p0, q0, hargs, rfl, rfl, h0, r0⟩ := trodAll_cons hA
  obtain ⟨rfl, rfl, rfl⟩ := trodAll_nil r0
  obtain rfl : args = #[v0] := by cases args; simp_all
  obtain ⟨rfl, rfl⟩ := trodVars_none hV
  obtain ⟨x0_0, x0_1, x0_2, x0_3, x0_4, x0_5, rfl, rfl, rfl, w0⟩ := kit.open_six Tryd.underlying23 (by kernel_rfl) (by kernel_rfl) Tryd.underlying3 (by simp) (hval 0 23 v0 rfl rfl) h0
  clear hA0 hval0
  refine (walk x0_0 x0_1 x0_2 x0_3 x0_4 x0_5 W w0 hT).mono fun e W' ⟨he, bel⟩ => ?_
  subst he
  exact ⟨_, rfl, _, _, _, [], _, [], hW', trodAll_mk1 (shut_bool Tryd.underlying4 _), (trodAll_cons_mk (kit.shut_six Tryd.underlying23 (by kernel_rfl) (by kernel_rfl) Tryd.underlying3 (by simp) w0) trodAll_mk0), rfl, bel.frame _, fun h => by cases h⟩

noncomputable def laidWorld (os : Os) : World :=
  { World.holding Tryd.prog os ⟨#[], #[], []⟩ with heap := (kit.laidCells (kit.laidCells (kit.laidCells (World.holding Tryd.prog os ⟨#[], #[], []⟩).heap 4 Rows.laid_math_bits_deBruijn32tab) 5 Rows.laid_math_bits_deBruijn64tab) 1 Rows.laid_internal_strconv_uint64pow10) }
theorem laid_met (os : Os) : laidMet Tryd.prog Rows.fnExactFormatOpRow.laid ((laidWorld os).forCall (fun _ _ => 0) ⟨#[], #[.agg #[.int .i64 0, .int .i64 0, .int .i64 0, .int .i64 0, .int .i64 0, .int .i64 0]], []⟩).memory :=
  laidMet_of_run' 8 (by kernel_rfl) (by kernel_rfl)
theorem reads (os : Os) {H : Type} (enc : TypeId × Value → H) : ∃ places, DataW.whole enc Tryd.prog ((laidWorld os).forCall (fun _ _ => 0) ⟨#[], #[.agg #[.int .i64 0, .int .i64 0, .int .i64 0, .int .i64 0, .int .i64 0, .int .i64 0]], []⟩).memory Tryd.f3.params.toList Rows.fnExactFormatOpSpec.vars false (#[.agg #[.int .i64 0, .int .i64 0, .int .i64 0, .int .i64 0, .int .i64 0, .int .i64 0]] : Array Value).toList 8 = some ([.agg [.lit (.int .i64 0), .lit (.int .i64 0), .lit (.int .i64 0), .lit (.int .i64 0), .lit (.int .i64 0), .lit (.int .i64 0)]], [], places) :=
  ⟨[], by kernel_rfl⟩
set_option maxRecDepth 100000 in
theorem lifted (os : Os) (started : os.Started) (H : Type) (enc : TypeId × Value → H) (F : Stop.Interp) :
    ReturnsInHanded {} Tryd.checked os 3 .any ((OpenSpec.ofChange Rows.fnExactFormatOpSpec).preRow enc Tryd.prog Tryd.f3 Rows.fnExactFormatOpRow.domain false Rows.fnExactFormatOpRow.laid) (((OpenSpec.ofChange Rows.fnExactFormatOpSpec).at F).post enc Tryd.prog Tryd.f3 false true false false) := by
  obtain ⟨places, hx⟩ := reads os enc
  refine returnsInHanded_of_row (C := Tryd.checked) (s := OpenSpec.ofChange Rows.fnExactFormatOpSpec) kit.own started (by kernel_rfl) Tryd.func3
    (witness_row_at (enc := enc) (C := Tryd.checked) false (laidWorld os) #[.agg #[.int .i64 0, .int .i64 0, .int .i64 0, .int .i64 0, .int .i64 0, .int .i64 0]] rfl (by kernel_rfl) (by kernel_rfl) (by kernel_rfl)
      (OpenSpec.preRow_of_cond 8 hx (by kernel_rfl) (fun k hk => by cases hk) (by kernel_rfl) (laid_met os))) ?_
  intro W base args ds gs before hval hW _ _ _ hL _ _
  exact contract H enc W base args ds gs before hval hW hL
theorem said : Rows.FnExactFormatOpSaid :=
  OpenClaim.holds_of_cond 3 Tryd.f3 rfl rfl rfl rfl rfl rfl rfl ⟨rfl, rfl, rfl, rfl, rfl⟩ rfl rfl rfl rfl rfl (by kernel_rfl) Tryd.func3 (by kernel_rfl)
    (of_decide_eq_true (by kernel_rfl)) (by unfold Func.isWrapper; first | (rw [if_pos (by decide +kernel)]; kernel_rfl) | (rw [if_neg (by decide +kernel)]; exact ⟨rfl, rfl⟩))
    (fun os started H enc _ F => by rw [OpenClaim.pre_eq_preRow]; exact lifted os started H enc F)
theorem plain (f : FuncId) (fn : Func) (hf : Tryd.pinned.checked.prog.funcNamed "loop.example/g01926/laws.FnExactFormatOp" = some f) (hfn : Tryd.pinned.checked.prog.funcs[f]? = some fn) :
    false = Tryd.pinned.checked.prog.looks [] ∧ ∀ (j : Nat) t, fn.params[j]? = some t → Tryd.pinned.checked.prog.wantsStandIn t = false := by
  obtain rfl : f = 3 := Option.some.inj ((show Tryd.prog.funcNamed "loop.example/g01926/laws.FnExactFormatOp" = some 3 by kernel_rfl).symm.trans hf) |>.symm
  obtain rfl : fn = Tryd.f3 := (Option.some.inj (Tryd.func3.symm.trans hfn)).symm
  refine ⟨by kernel_rfl, fun j t ht => ?_⟩
  rw [Tryd.params3] at ht
  have hm := Array.mem_of_getElem? ht
  have hall : ∀ t ∈ (#[23] : Array TypeId), Tryd.prog.wantsStandIn t = false := by
    intro t ht
    simp only [List.mem_toArray, List.mem_cons, List.not_mem_nil, or_false] at ht
    subst ht; exact (show Tryd.prog.wantsStandIn 23 = false by kernel_rfl)
  exact hall t hm
theorem proved : Rows.FnExactFormatOpCardSaid :=
  Claim7.holds_tied_plain_at .later [] _ _ _ _ said (fun _ h => by cases h) (by kernel_rfl) (fun _ h => by cases h) fnExactFormatOp_row_tie rfl ⟨rfl, rfl⟩ (by kernel_rfl) rfl plain (by kernel_rfl)
end Go.Proofs.YtdkmcngpjiijkaaDoor.fnExactFormatOp
