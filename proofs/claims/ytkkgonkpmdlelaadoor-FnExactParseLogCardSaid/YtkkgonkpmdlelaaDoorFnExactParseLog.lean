/-
  For every string (the law passes over those of more than 2^20 bytes), impl's ParseLog returns the same list and bool as the specification's, in memory of its own: the law returns true and changes nothing that was there. The card ties the library's list of errors and the constant MaxLen.
-/
import Derived.Test.YtkkgonkpmdlelaaDoorKitLaid
import Derived.Test.YtkkgonkpmdlelaaDoorS5Parse
import Derived.Test.YtkkgonkpmdlelaaDoorS5ParseI
import Derived.Test.YtkkgonkpmdlelaaDoorCards
import Derived.Test.YtkkgonkpmdlelaaDoorTie
import Derived.Deep.RegionWith
import Derived.Deep.DeepCutAuto
namespace Go.Proofs.YtkkgonkpmdlelaaDoor.fnExactParseLog
open Go.ChangeShapes Go.WideShapes Go.ChangeAt Go.RowKit
open Go.ChangeMaps (open_string shut_string)
set_option linter.unusedVariables false

set_option maxRecDepth 100000 in
set_option maxHeartbeats 16000000 in
theorem walk (a0 : ByteArray) (w : World) (w0 : a0.size ≤ maxLen) (hT : kit.Tab w) (hM : kit.Mx w) :
    Calls Tryd.prog 4 #[.string a0] w fun e w' => e = .returned (.bool true) ∧ Below w.heap.size w w' := by
  unfold maxLen at w0
  have HB := Lib.hid (Below.refl w.heap.size w)
  have hz : w.heap.size ≤ w.heap.size := Nat.le_refl _
  by_cases hbig : a0.size > 1048576
  · go_enter Tryd.func4, Tryd.ntmps4
    go_wp2_with fail
    go_ret
    exact ⟨rfl, Below.refl _ _⟩
  go_enter Tryd.func4, Tryd.ntmps4
  go_wp2_with fail
  refine (kit.specParseLog a0 w (by omega)).mono ?_
  rintro e w1 ⟨uE, he, hoE, hb⟩
  generalize hT1 : kit.parLl a0.data.toList = T1 at hoE
  have lT1 : T1.length ≤ 2097152 := by rw [← hT1]; exact kit.parLl_len _
  have HT1 := Lib.hid hT1
  clear hT1
  generalize hT2 : kit.parLok a0.data.toList = T2 at he
  have HT2 := Lib.hid hT2
  clear hT2
  obtain ⟨yr2, qr2, rfl⟩ := hoE.shape
  subst he
  replace HB := Lib.hid (HB.out.trans (hb.mono hz))
  replace hz := Nat.le_trans hz hb.size
  have HZw1 := Lib.hid hb.size
  have HOr2 := Lib.hid hoE
  have HUr2 := Lib.hid hoE.block
  clear hoE
  clear hb
  go_wp2_with fail
  refine (kit.implParseLog a0 w1 (by omega) (hT.below HB.out) (hM.below HB.out)).mono ?_
  rintro e w3 ⟨uE, he, hoE, hb⟩
  rw [HT1.out] at hoE
  rw [HT2.out] at he
  obtain ⟨yr4, qr4, rfl⟩ := hoE.shape
  subst he
  replace HB := Lib.hid (HB.out.trans (hb.mono hz))
  replace hz := Nat.le_trans hz hb.size
  have HZw3 := Lib.hid hb.size
  replace HOr2 := Lib.hid (HOr2.out.later hb)
  have HOr4 := Lib.hid hoE
  have HUr4 := Lib.hid hoE.block
  clear hoE
  clear hb
  go_wp2_with fail
  refine (kit.eqEntrySO _ _ (.slice yr4 T1.length qr4) (.slice yr2 T1.length qr2) T1 T1 w3 (by omega) (by omega) HOr4.out HOr2.out).mono ?_
  rintro e w5 ⟨he, hb⟩
  rw [decide_eq_true rfl] at he
  subst he
  replace HB := Lib.hid (HB.out.trans (hb.mono hz))
  replace hz := Nat.le_trans hz hb.size
  have HZw5 := Lib.hid hb.size
  replace HOr2 := Lib.hid (HOr2.out.later hb)
  replace HOr4 := Lib.hid (HOr4.out.later hb)
  clear hb
  go_wp2_with fail
  refine (kit.markEntryS _ 1 (.slice yr4 T1.length qr4) T1 w5 (by omega) (by omega) (by omega) HOr4.out).mono ?_
  rintro e w6 ⟨rfl, ho, hg1⟩
  have hb : Below w.heap.size w5 w6 := (Below.refl w.heap.size w5).grown hg1 hz (fun g h => by have := HUr4.out g h; have := HZw1.out; have := HZw3.out; have := HZw5.out; omega)
  have hs : w5.heap.size ≤ w6.heap.size := hb.size
  replace HOr2 := Lib.hid (HOr2.out.marked hg1 (fun g a c => by have h3 := HUr4.out g a; have h4 := HUr2.out g c; have := HZw1.out; have := HZw3.out; have := HZw5.out; omega))
  replace HB := Lib.hid (HB.out.trans hb)
  replace hz := Nat.le_trans hz hs
  have HZw6 := Lib.hid hs
  replace HOr4 := Lib.hid ho
  clear hb hs hg1 ho
  go_wp2_with fail
  refine (kit.heldEntryS _ 1 (T1.length) (.slice yr4 T1.length qr4) w6 (by omega) (by omega) (by omega) HOr4.out).mono ?_
  rintro e w7 ⟨rfl, rfl⟩
  go_wp2_with fail
  refine (kit.implParseLog a0 w6 (by omega) (hT.below HB.out) (hM.below HB.out)).mono ?_
  rintro e w8 ⟨uE, he, hoE, hb⟩
  rw [HT1.out] at hoE
  rw [HT2.out] at he
  obtain ⟨yr9, qr9, rfl⟩ := hoE.shape
  subst he
  replace HB := Lib.hid (HB.out.trans (hb.mono hz))
  replace hz := Nat.le_trans hz hb.size
  have HZw8 := Lib.hid hb.size
  replace HOr2 := Lib.hid (HOr2.out.later hb)
  replace HOr4 := Lib.hid (HOr4.out.later hb)
  have HOr9 := Lib.hid hoE
  have HUr9 := Lib.hid hoE.block
  clear hoE
  clear hb
  go_wp2_with fail
  refine (kit.eqEntrySO _ _ (.slice yr9 T1.length qr9) (.slice yr2 T1.length qr2) T1 T1 w8 (by omega) (by omega) HOr9.out HOr2.out).mono ?_
  rintro e w10 ⟨he, hb⟩
  rw [decide_eq_true rfl] at he
  subst he
  replace HB := Lib.hid (HB.out.trans (hb.mono hz))
  replace hz := Nat.le_trans hz hb.size
  have HZw10 := Lib.hid hb.size
  replace HOr2 := Lib.hid (HOr2.out.later hb)
  replace HOr4 := Lib.hid (HOr4.out.later hb)
  replace HOr9 := Lib.hid (HOr9.out.later hb)
  clear hb
  go_wp2_with fail
  refine (kit.heldEntryS _ 1 (T1.length) (.slice yr4 T1.length qr4) w10 (by omega) (by omega) (by omega) HOr4.out).mono ?_
  rintro e w11 ⟨rfl, rfl⟩
  go_wp2_with fail
  go_ret
  exact ⟨rfl, HB.out⟩
set_option maxRecDepth 100000 in
theorem contract (H : Type) (enc : TypeId × Value → H) (W : World) (base : Nat) (args : Array Value) (ds gs : List (DataW H)) (before : List MemPlace)
    (hval0 : ∀ (j : Nat) t v, Tryd.f4.params[j]? = some t → args[j]? = some v → Value.okWide Tryd.prog W .any base t v)
    (hW : DataW.Whole enc Tryd.prog Tryd.f4.params.toList Rows.fnExactParseLogSpec.vars false W args.toList ds gs before) (hL : laidMetH Tryd.prog Rows.fnExactParseLogRow.laid W) (hS : W.ShapedOpen Tryd.prog) :
    Calls Tryd.prog 4 args W fun e W' => ∃ v, e = .returned v ∧ Rows.fnExactParseLogSpec.post enc Tryd.prog Tryd.f4 false true false false W args v W' := by
  have hT : kit.Tab W := kit.tab_of_laid (by kernel_rfl) hL
  have hval : ∀ (j : Nat) t v, Tryd.f4.params[j]? = some t → args[j]? = some v → Value.okWide Tryd.prog W .any base t v := hval0
  have hW' := hW
  obtain ⟨p, q, hA0, hV, rfl, hfz, hnd⟩ := hW
  have hA : DataW.TrodAll enc Tryd.prog W 0 (fun _ => true) true Tryd.f4.params.toList args.toList ds p := hA0
  rw [Tryd.params4] at hA hval
  obtain ⟨v0, vs0, d0, ds0, p0, q0, hargs, rfl, rfl, h0, r0⟩ := trodAll_cons hA
  obtain ⟨rfl, rfl, rfl⟩ := trodAll_nil r0
  obtain rfl : args = #[v0] := by cases args; simp_all
  obtain ⟨rfl, rfl⟩ := trodVars_none hV
  obtain ⟨a0, rfl, rfl, rfl, w0⟩ := open_string Tryd.underlying9 (hval 0 9 v0 rfl rfl) h0
  clear hA0 hval0
  refine (walk a0 W w0 hT (kit.mx_of_shape hS)).mono fun e W' ⟨he, bel⟩ => ?_
  subst he
  exact ⟨_, rfl, _, _, _, [], _, [], hW', trodAll_mk1 (shut_bool Tryd.underlying4 _), (trodAll_cons_mk (shut_string Tryd.underlying9 w0) trodAll_mk0), rfl, bel.frame _, fun h => by cases h⟩

noncomputable def laidWorld (os : Os) : World :=
  { World.holding Tryd.prog os ⟨#[], #[], []⟩ with heap := (kit.laidCells (kit.laidCells (kit.laidCells (kit.laidCells (kit.laidCells (World.holding Tryd.prog os ⟨#[], #[], []⟩).heap 7 Rows.laid_math_bits_deBruijn32tab) 8 Rows.laid_math_bits_deBruijn64tab) 6 Rows.laid_internal_strconv_uint64pow10) 5 Rows.laid_unicode_utf8_acceptRanges) 4 Rows.laid_unicode_utf8_first) }
theorem laid_met (os : Os) : laidMet Tryd.prog Rows.fnExactParseLogRow.laid ((laidWorld os).forCall (fun _ _ => 0) ⟨#[], #[.string ByteArray.empty], []⟩).memory :=
  laidMet_of_run' 8 (by kernel_rfl) (by kernel_rfl)
theorem reads (os : Os) {H : Type} (enc : TypeId × Value → H) : ∃ places, DataW.whole enc Tryd.prog ((laidWorld os).forCall (fun _ _ => 0) ⟨#[], #[.string ByteArray.empty], []⟩).memory Tryd.f4.params.toList Rows.fnExactParseLogSpec.vars false (#[.string ByteArray.empty] : Array Value).toList 8 = some ([.lit (.string [])], [], places) :=
  ⟨[], by kernel_rfl⟩
set_option maxRecDepth 100000 in
theorem lifted (os : Os) (started : os.Started) (H : Type) (enc : TypeId × Value → H) (F : Stop.Interp) :
    ReturnsInHanded {} Tryd.checked os 4 .any ((OpenSpec.ofChange Rows.fnExactParseLogSpec).preRow enc Tryd.prog Tryd.f4 Rows.fnExactParseLogRow.domain false Rows.fnExactParseLogRow.laid) (((OpenSpec.ofChange Rows.fnExactParseLogSpec).at F).post enc Tryd.prog Tryd.f4 false true false false) := by
  obtain ⟨places, hx⟩ := reads os enc
  refine returnsInHanded_of_row (C := Tryd.checked) (s := OpenSpec.ofChange Rows.fnExactParseLogSpec) kit.own started (by kernel_rfl) Tryd.func4
    (witness_row_at (enc := enc) (C := Tryd.checked) false (laidWorld os) #[.string ByteArray.empty] rfl (by kernel_rfl) (by kernel_rfl) (by kernel_rfl)
      (OpenSpec.preRow_of_cond 8 hx (by kernel_rfl) (fun k hk => by cases hk) (by kernel_rfl) (laid_met os))) ?_
  intro W base args ds gs before hval hW _ _ _ hL hS _
  exact contract H enc W base args ds gs before hval hW hL hS
theorem said : Rows.FnExactParseLogSaid :=
  OpenClaim.holds_of_cond 4 Tryd.f4 rfl rfl rfl rfl rfl rfl rfl ⟨rfl, rfl, rfl, rfl, rfl⟩ rfl rfl rfl rfl rfl (by kernel_rfl) Tryd.func4 (by kernel_rfl)
    (of_decide_eq_true (by kernel_rfl)) (by unfold Func.isWrapper; first | (rw [if_pos (by decide +kernel)]; kernel_rfl) | (rw [if_neg (by decide +kernel)]; exact ⟨rfl, rfl⟩))
    (fun os started H enc _ F => by rw [OpenClaim.pre_eq_preRow]; exact lifted os started H enc F)
theorem plain (f : FuncId) (fn : Func) (hf : Tryd.pinned.checked.prog.funcNamed "loop.example/g01926/laws.FnExactParseLog" = some f) (hfn : Tryd.pinned.checked.prog.funcs[f]? = some fn) :
    true = Tryd.pinned.checked.prog.looks [] ∧ ∀ (j : Nat) t, fn.params[j]? = some t → Tryd.pinned.checked.prog.wantsStandIn t = false := by
  obtain rfl : f = 4 := Option.some.inj ((show Tryd.prog.funcNamed "loop.example/g01926/laws.FnExactParseLog" = some 4 by kernel_rfl).symm.trans hf) |>.symm
  obtain rfl : fn = Tryd.f4 := (Option.some.inj (Tryd.func4.symm.trans hfn)).symm
  refine ⟨by kernel_rfl, fun j t ht => ?_⟩
  rw [Tryd.params4] at ht
  have hm := Array.mem_of_getElem? ht
  have hall : ∀ t ∈ (#[9] : Array TypeId), Tryd.prog.wantsStandIn t = false := by
    intro t ht
    simp only [List.mem_toArray, List.mem_cons, List.not_mem_nil, or_false] at ht
    subst ht; exact (show Tryd.prog.wantsStandIn 9 = false by kernel_rfl)
  exact hall t hm
theorem proved : Rows.FnExactParseLogCardSaid :=
  Claim7.holds_tied_plain_at .later [] _ _ _ _ said (fun _ h => by cases h) (by kernel_rfl) (fun _ h => by cases h) fnExactParseLog_row_tie rfl ⟨rfl, rfl⟩ (by kernel_rfl) rfl plain (by kernel_rfl)
end Go.Proofs.YtkkgonkpmdlelaaDoor.fnExactParseLog
