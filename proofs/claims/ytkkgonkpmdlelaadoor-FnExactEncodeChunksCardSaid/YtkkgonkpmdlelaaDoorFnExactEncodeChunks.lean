/-
  For every string (the law passes over those longer than 2^20 bytes) and every int, impl's EncodeChunks returns the same list of strings as the specification's, in memory of its own: the law returns true and changes nothing that was there. The card ties the library's listed tables to the program's text. No other condition.
-/
import Derived.Test.YtkkgonkpmdlelaaDoorKitLaid
import Derived.Test.YtkkgonkpmdlelaaDoorS7EncC
import Derived.Test.YtkkgonkpmdlelaaDoorTxtMark
import Derived.Test.YtkkgonkpmdlelaaDoorCards
import Derived.Test.YtkkgonkpmdlelaaDoorTie
import Derived.Deep.RegionWith
import Derived.Deep.DeepCutAuto
namespace Go.Proofs.YtkkgonkpmdlelaaDoor.fnExactEncodeChunks
open Go.ChangeShapes Go.WideShapes Go.ChangeAt Go.RowKit
open Go.ChangeMaps (open_string shut_string)
set_option linter.unusedVariables false

set_option maxRecDepth 100000 in
set_option maxHeartbeats 16000000 in
theorem walk (a0 : ByteArray) (a1 : Int) (w : World) (w0 : a0.size ≤ maxLen) (w1 : (Lit.int .i64 a1).wf = true) (hT : kit.Tab w) :
    Calls Tryd.prog 7 #[.string a0, .int .i64 a1] w fun e w' => e = .returned (.bool true) ∧ Below w.heap.size w w' := by
  unfold maxLen at w0
  have HB := Lib.hid (Below.refl w.heap.size w)
  have hz : w.heap.size ≤ w.heap.size := Nat.le_refl _
  by_cases hbig : a0.size > 1048576
  · go_enter Tryd.func7, Tryd.ntmps7
    go_wp2_with fail
    go_ret
    exact ⟨rfl, Below.refl _ _⟩
  go_enter Tryd.func7, Tryd.ntmps7
  go_wp2_with fail
  refine (kit.specEncodeChunks a0 a1 w (by omega)).mono ?_
  rintro e w1 ⟨uW, he, hoW, hb⟩
  generalize hT1 : kit.encCh a0.data.toList a1 = T1 at hoW
  have lT1 : T1.length ≤ 4194304 := by rw [← hT1]; exact kit.encCh_len _ _
  have HT1 := Lib.hid hT1
  clear hT1
  obtain ⟨yr2, qr2, rfl⟩ := hoW.shape
  subst he
  replace HB := Lib.hid (HB.out.trans (hb.mono hz))
  replace hz := Nat.le_trans hz hb.size
  have HZw1 := Lib.hid hb.size
  have HOr2 := Lib.hid hoW
  have HUr2 := Lib.hid hoW.block
  clear hoW
  clear hb
  go_wp2_with fail
  refine (kit.implEncodeChunks a0 a1 w1 (by omega) (hT.below HB.out)).mono ?_
  rintro e w3 ⟨uW, he, hoW, hb⟩
  rw [HT1.out] at hoW
  obtain ⟨yr4, qr4, rfl⟩ := hoW.shape
  subst he
  replace HB := Lib.hid (HB.out.trans (hb.mono hz))
  replace hz := Nat.le_trans hz hb.size
  have HZw3 := Lib.hid hb.size
  replace HOr2 := Lib.hid (HOr2.out.later hb)
  have HOr4 := Lib.hid hoW
  have HUr4 := Lib.hid hoW.block
  clear hoW
  clear hb
  go_wp2_with fail
  refine (kit.eqStringSO _ _ (.slice yr4 T1.length qr4) (.slice yr2 T1.length qr2) T1 T1 w3 (by omega) (by omega) HOr4.out HOr2.out).mono ?_
  rintro e w5 ⟨he, hb⟩
  rw [decide_eq_true rfl] at he
  subst he
  replace HB := Lib.hid (HB.out.trans (hb.mono hz))
  replace hz := Nat.le_trans hz hb.size
  have HZw5 := Lib.hid hb.size
  replace HOr2 := Lib.hid (HOr2.out.later hb)
  replace HOr4 := Lib.hid (HOr4.out.later hb)
  clear hb
  go_wp2_with fail
  refine (kit.markStringS _ 1 (.slice yr4 T1.length qr4) T1 w5 (by omega) (by omega) (by omega) HOr4.out).mono ?_
  rintro e w6 ⟨rfl, ho, hg1⟩
  have hb : Below w.heap.size w5 w6 := (Below.refl w.heap.size w5).grown hg1 hz (fun g h => by have := HUr4.out g h; have := HZw1.out; have := HZw3.out; have := HZw5.out; omega)
  have hs : w5.heap.size ≤ w6.heap.size := hb.size
  replace HOr2 := Lib.hid (HOr2.out.marked hg1 (fun g a c => by have h3 := HUr4.out g a; have h4 := HUr2.out g c; have := HZw1.out; have := HZw3.out; have := HZw5.out; omega))
  replace HB := Lib.hid (HB.out.trans hb)
  replace hz := Nat.le_trans hz hs
  have HZw6 := Lib.hid hs
  replace HOr4 := Lib.hid ho
  clear hb hs hg1 ho
  go_wp2_with fail
  refine (kit.heldStringS _ 1 (T1.length) (.slice yr4 T1.length qr4) w6 (by omega) (by omega) (by omega) HOr4.out).mono ?_
  rintro e w7 ⟨rfl, hb⟩
  replace HB := Lib.hid (HB.out.trans (hb.mono hz))
  replace hz := Nat.le_trans hz hb.size
  have HZw7 := Lib.hid hb.size
  replace HOr2 := Lib.hid (HOr2.out.later hb)
  replace HOr4 := Lib.hid (HOr4.out.later hb)
  clear hb
  go_wp2_with fail
  refine (kit.implEncodeChunks a0 a1 w7 (by omega) (hT.below HB.out)).mono ?_
  rintro e w8 ⟨uW, he, hoW, hb⟩
  rw [HT1.out] at hoW
  obtain ⟨yr9, qr9, rfl⟩ := hoW.shape
  subst he
  replace HB := Lib.hid (HB.out.trans (hb.mono hz))
  replace hz := Nat.le_trans hz hb.size
  have HZw8 := Lib.hid hb.size
  replace HOr2 := Lib.hid (HOr2.out.later hb)
  replace HOr4 := Lib.hid (HOr4.out.later hb)
  have HOr9 := Lib.hid hoW
  have HUr9 := Lib.hid hoW.block
  clear hoW
  clear hb
  go_wp2_with fail
  refine (kit.eqStringSO _ _ (.slice yr9 T1.length qr9) (.slice yr2 T1.length qr2) T1 T1 w8 (by omega) (by omega) HOr9.out HOr2.out).mono ?_
  rintro e w10 ⟨he, hb⟩
  rw [decide_eq_true rfl] at he
  subst he
  replace HB := Lib.hid (HB.out.trans (hb.mono hz))
  replace hz := Nat.le_trans hz hb.size
  have HZw10 := Lib.hid hb.size
  replace HOr2 := Lib.hid (HOr2.out.later hb)
  replace HOr4 := Lib.hid (HOr4.out.later hb)
  replace HOr9 := Lib.hid (HOr9.out.later hb)
  clear hb
  go_wp2_with fail
  refine (kit.heldStringS _ 1 (T1.length) (.slice yr4 T1.length qr4) w10 (by omega) (by omega) (by omega) HOr4.out).mono ?_
  rintro e w11 ⟨rfl, hb⟩
  replace HB := Lib.hid (HB.out.trans (hb.mono hz))
  replace hz := Nat.le_trans hz hb.size
  have HZw11 := Lib.hid hb.size
  replace HOr2 := Lib.hid (HOr2.out.later hb)
  replace HOr4 := Lib.hid (HOr4.out.later hb)
  replace HOr9 := Lib.hid (HOr9.out.later hb)
  clear hb
  go_wp2_with fail
  go_ret
  exact ⟨rfl, HB.out⟩
set_option maxRecDepth 100000 in
theorem contract (H : Type) (enc : TypeId × Value → H) (W : World) (base : Nat) (args : Array Value) (ds gs : List (DataW H)) (before : List MemPlace)
    (hval0 : ∀ (j : Nat) t v, Tryd.f7.params[j]? = some t → args[j]? = some v → Value.okWide Tryd.prog W .any base t v)
    (hW : DataW.Whole enc Tryd.prog Tryd.f7.params.toList Rows.fnExactEncodeChunksSpec.vars false W args.toList ds gs before) (hL : laidMetH Tryd.prog Rows.fnExactEncodeChunksRow.laid W) :
    Calls Tryd.prog 7 args W fun e W' => ∃ v, e = .returned v ∧ Rows.fnExactEncodeChunksSpec.post enc Tryd.prog Tryd.f7 false true false false W args v W' := by
  have hT : kit.Tab W := kit.tab_of_laid (by kernel_rfl) hL
  have hval : ∀ (j : Nat) t v, Tryd.f7.params[j]? = some t → args[j]? = some v → Value.okWide Tryd.prog W .any base t v := hval0
  have hW' := hW
  obtain ⟨p, q, hA0, hV, rfl, hfz, hnd⟩ := hW
  have hA : DataW.TrodAll enc Tryd.prog W 0 (fun _ => true) true Tryd.f7.params.toList args.toList ds p := hA0
  rw [Tryd.params7] at hA hval
  obtain ⟨v0, vs0, d0, ds0, p0, q0, hargs, rfl, rfl, h0, r0⟩ := trodAll_cons hA
  obtain ⟨v1, vs1, d1, ds1, p1, q1, rfl, rfl, rfl, h1, r1⟩ := trodAll_cons r0
  obtain ⟨rfl, rfl, rfl⟩ := trodAll_nil r1
  obtain rfl : args = #[v0, v1] := by cases args; simp_all
  obtain ⟨rfl, rfl⟩ := trodVars_none hV
  obtain ⟨a0, rfl, rfl, rfl, w0⟩ := open_string Tryd.underlying9 (hval 0 9 v0 rfl rfl) h0
  obtain ⟨a1, rfl, rfl, rfl, w1⟩ := open_int Tryd.underlying3 (hval 1 3 v1 rfl rfl) h1
  clear hA0 hval0
  refine (walk a0 a1 W w0 w1 hT).mono fun e W' ⟨he, bel⟩ => ?_
  subst he
  exact ⟨_, rfl, _, _, _, [], _, [], hW', trodAll_mk1 (shut_bool Tryd.underlying4 _), (trodAll_cons_mk (shut_string Tryd.underlying9 w0) (trodAll_cons_mk (shut_int Tryd.underlying3 w1) trodAll_mk0)), rfl, bel.frame _, fun h => by cases h⟩

noncomputable def laidWorld (os : Os) : World :=
  { World.holding Tryd.prog os ⟨#[], #[], []⟩ with heap := (kit.laidCells (kit.laidCells (kit.laidCells (World.holding Tryd.prog os ⟨#[], #[], []⟩).heap 7 Rows.laid_math_bits_deBruijn32tab) 8 Rows.laid_math_bits_deBruijn64tab) 6 Rows.laid_internal_strconv_uint64pow10) }
theorem laid_met (os : Os) : laidMet Tryd.prog Rows.fnExactEncodeChunksRow.laid ((laidWorld os).forCall (fun _ _ => 0) ⟨#[], #[.string ByteArray.empty, .int .i64 0], []⟩).memory :=
  laidMet_of_run' 8 (by kernel_rfl) (by kernel_rfl)
theorem reads (os : Os) {H : Type} (enc : TypeId × Value → H) : ∃ places, DataW.whole enc Tryd.prog ((laidWorld os).forCall (fun _ _ => 0) ⟨#[], #[.string ByteArray.empty, .int .i64 0], []⟩).memory Tryd.f7.params.toList Rows.fnExactEncodeChunksSpec.vars false (#[.string ByteArray.empty, .int .i64 0] : Array Value).toList 8 = some ([.lit (.string []), .lit (.int .i64 0)], [], places) :=
  ⟨[], by kernel_rfl⟩
set_option maxRecDepth 100000 in
theorem lifted (os : Os) (started : os.Started) (H : Type) (enc : TypeId × Value → H) (F : Stop.Interp) :
    ReturnsInHanded {} Tryd.checked os 7 .any ((OpenSpec.ofChange Rows.fnExactEncodeChunksSpec).preRow enc Tryd.prog Tryd.f7 Rows.fnExactEncodeChunksRow.domain false Rows.fnExactEncodeChunksRow.laid) (((OpenSpec.ofChange Rows.fnExactEncodeChunksSpec).at F).post enc Tryd.prog Tryd.f7 false true false false) := by
  obtain ⟨places, hx⟩ := reads os enc
  refine returnsInHanded_of_row (C := Tryd.checked) (s := OpenSpec.ofChange Rows.fnExactEncodeChunksSpec) kit.own started (by kernel_rfl) Tryd.func7
    (witness_row_at (enc := enc) (C := Tryd.checked) false (laidWorld os) #[.string ByteArray.empty, .int .i64 0] rfl (by kernel_rfl) (by kernel_rfl) (by kernel_rfl)
      (OpenSpec.preRow_of_cond 8 hx (by kernel_rfl) (fun k hk => by cases hk) (by kernel_rfl) (laid_met os))) ?_
  intro W base args ds gs before hval hW _ _ _ hL _ _
  exact contract H enc W base args ds gs before hval hW hL
theorem said : Rows.FnExactEncodeChunksSaid :=
  OpenClaim.holds_of_cond 7 Tryd.f7 rfl rfl rfl rfl rfl rfl rfl ⟨rfl, rfl, rfl, rfl, rfl⟩ rfl rfl rfl rfl rfl (by kernel_rfl) Tryd.func7 (by kernel_rfl)
    (of_decide_eq_true (by kernel_rfl)) (by unfold Func.isWrapper; first | (rw [if_pos (by decide +kernel)]; kernel_rfl) | (rw [if_neg (by decide +kernel)]; exact ⟨rfl, rfl⟩))
    (fun os started H enc _ F => by rw [OpenClaim.pre_eq_preRow]; exact lifted os started H enc F)
theorem plain (f : FuncId) (fn : Func) (hf : Tryd.pinned.checked.prog.funcNamed "loop.example/g01926/laws.FnExactEncodeChunks" = some f) (hfn : Tryd.pinned.checked.prog.funcs[f]? = some fn) :
    true = Tryd.pinned.checked.prog.looks [] ∧ ∀ (j : Nat) t, fn.params[j]? = some t → Tryd.pinned.checked.prog.wantsStandIn t = false := by
  obtain rfl : f = 7 := Option.some.inj ((show Tryd.prog.funcNamed "loop.example/g01926/laws.FnExactEncodeChunks" = some 7 by kernel_rfl).symm.trans hf) |>.symm
  obtain rfl : fn = Tryd.f7 := (Option.some.inj (Tryd.func7.symm.trans hfn)).symm
  refine ⟨by kernel_rfl, fun j t ht => ?_⟩
  rw [Tryd.params7] at ht
  have hm := Array.mem_of_getElem? ht
  have hall : ∀ t ∈ (#[9, 3] : Array TypeId), Tryd.prog.wantsStandIn t = false := by
    intro t ht
    simp only [List.mem_toArray, List.mem_cons, List.not_mem_nil, or_false] at ht
    rcases ht with rfl | rfl
    · exact (show Tryd.prog.wantsStandIn 9 = false by kernel_rfl)
    · exact (show Tryd.prog.wantsStandIn 3 = false by kernel_rfl)
  exact hall t hm
theorem proved : Rows.FnExactEncodeChunksCardSaid :=
  Claim7.holds_tied_plain_at .later [] _ _ _ _ said (fun _ h => by cases h) (by kernel_rfl) (fun _ h => by cases h) fnExactEncodeChunks_row_tie rfl ⟨rfl, rfl⟩ (by kernel_rfl) rfl plain (by kernel_rfl)
end Go.Proofs.YtkkgonkpmdlelaaDoor.fnExactEncodeChunks
