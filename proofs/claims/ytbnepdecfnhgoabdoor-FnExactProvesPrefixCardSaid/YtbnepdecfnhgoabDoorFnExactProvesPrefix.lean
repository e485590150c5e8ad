/-
  For every []Entry and every two ints (the law passes over lists with more than 2^20 entries), impl's ProvesPrefix returns the same bool as the specification's and leaves its arguments as they were: the law returns true and changes nothing that was there. The card ties the library's listed tables to the program's text. No other condition.
-/
import Derived.Test.YtbnepdecfnhgoabDoorKitLaid
import Derived.Test.YtbnepdecfnhgoabDoorS6Prove
import Derived.Test.YtbnepdecfnhgoabDoorCards
import Derived.Test.YtbnepdecfnhgoabDoorTie
import Derived.Deep.RegionWith
namespace Go.Proofs.YtbnepdecfnhgoabDoor.fnExactProvesPrefix
open Go.ChangeShapes Go.WideShapes Go.ChangeAt Go.RowKit
set_option linter.unusedVariables false

set_option maxRecDepth 100000 in
set_option maxHeartbeats 16000000 in
theorem walk (a0 : Option Addr) (c0 : Nat) (L0 : List kit.Ent) (a1 : Int) (a2 : Int) (w : World) (wa0 : kit.AtE w a0 L0) (wl0 : L0.length ≤ maxLen) (w1 : (Lit.int .i64 a1).wf = true) (w2 : (Lit.int .i64 a2).wf = true) (hT : kit.Tab w) :
    Calls Tryd.prog 3 #[.slice a0 L0.length c0, .int .i64 a1, .int .i64 a2] w fun e w' => e = .returned (.bool true) ∧ Below w.heap.size w w' := by
  unfold maxLen at wl0
  have HA0' := Lib.hid (kit.atE_low wa0)
  have HA0 := Lib.hid wa0
  clear wa0
  have HB := Lib.hid (Below.refl w.heap.size w)
  have hz : w.heap.size ≤ w.heap.size := Nat.le_refl _
  go_enter Tryd.func3, Tryd.ntmps3
  go_wp2_with fail
  refine (kit.szEntryS a0 L0.length c0 (1048576) w (by omega) (by omega) (by omega)).mono ?_
  rintro e w1 ⟨rfl, hw⟩
  subst hw
  by_cases hs1 : ¬ (L0.length : Int) ≤ 1048576
  · rw [if_neg hs1]
    go_wp2_with fail
    go_ret
    exact ⟨rfl, HB.out⟩
  replace hs1 := Decidable.not_not.1 hs1
  rw [if_pos hs1]
  go_wp2_with fail
  refine (kit.toEntryS a0 c0 L0 w (by omega) HA0.out).mono ?_
  rintro e w2 ⟨u3, rfl, ho, hb⟩
  obtain ⟨yr4, qr4, rfl⟩ := ho.shape
  replace HB := Lib.hid (HB.out.trans (hb.mono hz))
  replace hz := Nat.le_trans hz hb.size
  have HZw2 := Lib.hid hb.size
  replace HA0 := Lib.hid (HA0.out.later hb)
  have HOr4 := Lib.hid ho
  have HUr4 := Lib.hid ho.block
  clear ho
  clear hb
  go_wp2_with fail
  refine (kit.specProvesPrefix _ (.slice yr4 L0.length qr4) L0 a1 a2 w2 (by omega) HOr4.out).mono ?_
  rintro e w5 ⟨he, hb⟩
  generalize hT1 : kit.provesP L0 a1 a2 = T1 at he
  have HT1 := Lib.hid hT1
  clear hT1
  subst he
  replace HB := Lib.hid (HB.out.trans (hb.mono hz))
  replace hz := Nat.le_trans hz hb.size
  have HZw5 := Lib.hid hb.size
  replace HOr4 := Lib.hid (HOr4.out.later hb)
  replace HA0 := Lib.hid (HA0.out.later hb)
  clear hb
  go_wp2_with fail
  refine (kit.toEntryS a0 c0 L0 w5 (by omega) HA0.out).mono ?_
  rintro e w6 ⟨u7, rfl, ho, hb⟩
  obtain ⟨yr8, qr8, rfl⟩ := ho.shape
  replace HB := Lib.hid (HB.out.trans (hb.mono hz))
  replace hz := Nat.le_trans hz hb.size
  have HZw6 := Lib.hid hb.size
  replace HOr4 := Lib.hid (HOr4.out.later hb)
  replace HA0 := Lib.hid (HA0.out.later hb)
  have HOr8 := Lib.hid ho
  have HUr8 := Lib.hid ho.block
  clear ho
  clear hb
  go_wp2_with fail
  refine (kit.implProvesPrefix _ (.slice yr8 L0.length qr8) L0 a1 a2 w6 (by omega) HOr8.out (hT.below HB.out)).mono ?_
  rintro e w9 ⟨he, hb⟩
  rw [HT1.out] at he
  subst he
  replace HB := Lib.hid (HB.out.trans (hb.mono hz))
  replace hz := Nat.le_trans hz hb.size
  have HZw9 := Lib.hid hb.size
  replace HOr4 := Lib.hid (HOr4.out.later hb)
  replace HOr8 := Lib.hid (HOr8.out.later hb)
  replace HA0 := Lib.hid (HA0.out.later hb)
  clear hb
  go_wp2_with fail
  refine (kit.toEntryS a0 c0 L0 w9 (by omega) HA0.out).mono ?_
  rintro e w10 ⟨u11, rfl, ho, hb⟩
  obtain ⟨yr12, qr12, rfl⟩ := ho.shape
  replace HB := Lib.hid (HB.out.trans (hb.mono hz))
  replace hz := Nat.le_trans hz hb.size
  have HZw10 := Lib.hid hb.size
  replace HOr4 := Lib.hid (HOr4.out.later hb)
  replace HOr8 := Lib.hid (HOr8.out.later hb)
  replace HA0 := Lib.hid (HA0.out.later hb)
  have HOr12 := Lib.hid ho
  have HUr12 := Lib.hid ho.block
  clear ho
  clear hb
  go_wp2_with fail
  refine (kit.eqEntrySO _ _ (.slice yr8 L0.length qr8) (.slice yr12 L0.length qr12) L0 L0 w10 (by omega) (by omega) HOr8.out HOr12.out).mono ?_
  rintro e w13 ⟨he, hb⟩
  rw [decide_eq_true rfl] at he
  subst he
  replace HB := Lib.hid (HB.out.trans (hb.mono hz))
  replace hz := Nat.le_trans hz hb.size
  have HZw13 := Lib.hid hb.size
  replace HOr4 := Lib.hid (HOr4.out.later hb)
  replace HOr8 := Lib.hid (HOr8.out.later hb)
  replace HOr12 := Lib.hid (HOr12.out.later hb)
  replace HA0 := Lib.hid (HA0.out.later hb)
  clear hb
  go_wp2_with fail
  go_ret
  exact ⟨rfl, HB.out⟩
set_option maxRecDepth 100000 in
theorem contract (H : Type) (enc : TypeId × Value → H) (W : World) (base : Nat) (args : Array Value) (ds gs : List (DataW H)) (before : List MemPlace)
    (hval0 : ∀ (j : Nat) t v, Tryd.f3.params[j]? = some t → args[j]? = some v → Value.okWide Tryd.prog W .any base t v)
    (hW : DataW.Whole enc Tryd.prog Tryd.f3.params.toList Rows.fnExactProvesPrefixSpec.vars false W args.toList ds gs before) (hL : laidMetH Tryd.prog Rows.fnExactProvesPrefixRow.laid W) :
    Calls Tryd.prog 3 args W fun e W' => ∃ v, e = .returned v ∧ Rows.fnExactProvesPrefixSpec.post enc Tryd.prog Tryd.f3 false true false false W args v W' := by
  have hT : kit.Tab W := kit.tab_of_laid (by kernel_rfl) hL
  have hval : ∀ (j : Nat) t v, Tryd.f3.params[j]? = some t → args[j]? = some v → Value.okWide Tryd.prog W .any base t v := hval0
  have hW' := hW
  obtain ⟨p, q, hA0, hV, rfl, hfz, hnd⟩ := hW
  have hA : DataW.TrodAll enc Tryd.prog W 0 (fun _ => true) true Tryd.f3.params.toList args.toList ds p := hA0
  rw [Tryd.params3] at hA hval
  obtain ⟨v0, vs0, d0, ds0, p0, q0, hargs, rfl, rfl, h0, r0⟩ := trodAll_cons hA
  obtain ⟨v1, vs1, d1, ds1, p1, q1, rfl, rfl, rfl, h1, r1⟩ := trodAll_cons r0
  obtain ⟨v2, vs2, d2, ds2, p2, q2, rfl, rfl, rfl, h2, r2⟩ := trodAll_cons r1
  obtain ⟨rfl, rfl, rfl⟩ := trodAll_nil r2
  obtain rfl : args = #[v0, v1, v2] := by cases args; simp_all
  obtain ⟨rfl, rfl⟩ := trodVars_none hV
  have k0 := h0
  have lt0 : ∀ x ∈ p0, x.block < W.heap.size := by obtain ⟨m, hm⟩ := k0; exact DataW.trod_lt m _ _ _ hm
  obtain ⟨a0, len0, cap0, rfl⟩ := okWide_slice Tryd.underlying22 (hval 0 22 v0 rfl rfl)
  obtain ⟨a0', c0, L0, he0, wa0, wl0⟩ := kit.open_entV h0 lt0 rfl
  injection he0 with he0a he0b he0c
  subst he0a he0b he0c
  obtain ⟨a1, rfl, rfl, rfl, w1⟩ := open_int Tryd.underlying3 (hval 1 3 v1 rfl rfl) h1
  obtain ⟨a2, rfl, rfl, rfl, w2⟩ := open_int Tryd.underlying3 (hval 2 3 v2 rfl rfl) h2
  clear hA0 hval0
  refine (walk _ _ L0 a1 a2 W wa0 wl0 w1 w2 hT).mono fun e W' ⟨he, bel⟩ => ?_
  subst he
  exact ⟨_, rfl, _, _, _, [], _, [], hW', trodAll_mk1 (shut_bool Tryd.underlying4 _), (trodAll_cons_mk (Below.trod kit.laidOut (by kernel_rfl) (of_decide_eq_true (by kernel_rfl)) k0 bel lt0) (trodAll_cons_mk (shut_int Tryd.underlying3 w1) (trodAll_cons_mk (shut_int Tryd.underlying3 w2) trodAll_mk0))), rfl, bel.frame _, fun h => by cases h⟩

noncomputable def laidWorld (os : Os) : World :=
  { World.holding Tryd.prog os ⟨#[], #[], []⟩ with heap := (kit.laidCells (kit.laidCells (kit.laidCells (World.holding Tryd.prog os ⟨#[], #[], []⟩).heap 2 Rows.laid_math_bits_deBruijn32tab) 3 Rows.laid_math_bits_deBruijn64tab) 1 Rows.laid_internal_strconv_uint64pow10) }
theorem laid_met (os : Os) : laidMet Tryd.prog Rows.fnExactProvesPrefixRow.laid ((laidWorld os).forCall (fun _ _ => 0) ⟨#[], #[.slice none 0 0, .int .i64 0, .int .i64 0], []⟩).memory :=
  laidMet_of_run' 8 (by kernel_rfl) (by kernel_rfl)
theorem reads (os : Os) {H : Type} (enc : TypeId × Value → H) : ∃ places, DataW.whole enc Tryd.prog ((laidWorld os).forCall (fun _ _ => 0) ⟨#[], #[.slice none 0 0, .int .i64 0, .int .i64 0], []⟩).memory Tryd.f3.params.toList Rows.fnExactProvesPrefixSpec.vars false (#[.slice none 0 0, .int .i64 0, .int .i64 0] : Array Value).toList 8 = some ([.nil, .lit (.int .i64 0), .lit (.int .i64 0)], [], places) :=
  ⟨[], by kernel_rfl⟩
set_option maxRecDepth 100000 in
theorem lifted (os : Os) (started : os.Started) (H : Type) (enc : TypeId × Value → H) (F : Stop.Interp) :
    ReturnsInHanded {} Tryd.checked os 3 .any ((OpenSpec.ofChange Rows.fnExactProvesPrefixSpec).preRow enc Tryd.prog Tryd.f3 Rows.fnExactProvesPrefixRow.domain false Rows.fnExactProvesPrefixRow.laid) (((OpenSpec.ofChange Rows.fnExactProvesPrefixSpec).at F).post enc Tryd.prog Tryd.f3 false true false false) := by
  obtain ⟨places, hx⟩ := reads os enc
  refine returnsInHanded_of_row (C := Tryd.checked) (s := OpenSpec.ofChange Rows.fnExactProvesPrefixSpec) kit.own started (by kernel_rfl) Tryd.func3
    (witness_row_at (enc := enc) (C := Tryd.checked) false (laidWorld os) #[.slice none 0 0, .int .i64 0, .int .i64 0] rfl (by kernel_rfl) (by kernel_rfl) (by kernel_rfl)
      (OpenSpec.preRow_of_cond 8 hx (by kernel_rfl) (fun k hk => by cases hk) (by kernel_rfl) (laid_met os))) ?_
  intro W base args ds gs before hval hW _ _ _ hL _ _
  exact contract H enc W base args ds gs before hval hW hL
theorem said : Rows.FnExactProvesPrefixSaid :=
  OpenClaim.holds_of_cond 3 Tryd.f3 rfl rfl rfl rfl rfl rfl rfl ⟨rfl, rfl, rfl, rfl, rfl⟩ rfl rfl rfl rfl rfl (by kernel_rfl) Tryd.func3 (by kernel_rfl)
    (of_decide_eq_true (by kernel_rfl)) (by unfold Func.isWrapper; first | (rw [if_pos (by decide +kernel)]; kernel_rfl) | (rw [if_neg (by decide +kernel)]; exact ⟨rfl, rfl⟩))
    (fun os started H enc _ F => by rw [OpenClaim.pre_eq_preRow]; exact lifted os started H enc F)
theorem plain (f : FuncId) (fn : Func) (hf : Tryd.pinned.checked.prog.funcNamed "loop.example/g01926/laws.FnExactProvesPrefix" = some f) (hfn : Tryd.pinned.checked.prog.funcs[f]? = some fn) :
    false = Tryd.pinned.checked.prog.looks [] ∧ ∀ (j : Nat) t, fn.params[j]? = some t → Tryd.pinned.checked.prog.wantsStandIn t = false := by
  obtain rfl : f = 3 := Option.some.inj ((show Tryd.prog.funcNamed "loop.example/g01926/laws.FnExactProvesPrefix" = some 3 by kernel_rfl).symm.trans hf) |>.symm
  obtain rfl : fn = Tryd.f3 := (Option.some.inj (Tryd.func3.symm.trans hfn)).symm
  refine ⟨by kernel_rfl, fun j t ht => ?_⟩
  rw [Tryd.params3] at ht
  have hm := Array.mem_of_getElem? ht
  have hall : ∀ t ∈ (#[22, 3, 3] : Array TypeId), Tryd.prog.wantsStandIn t = false := by
    intro t ht
    simp only [List.mem_toArray, List.mem_cons, List.not_mem_nil, or_false] at ht
    rcases ht with rfl | rfl | rfl
    · exact (show Tryd.prog.wantsStandIn 22 = false by kernel_rfl)
    · exact (show Tryd.prog.wantsStandIn 3 = false by kernel_rfl)
    · exact (show Tryd.prog.wantsStandIn 3 = false by kernel_rfl)
  exact hall t hm
theorem proved : Rows.FnExactProvesPrefixCardSaid :=
  Claim7.holds_tied_plain_at .later [] _ _ _ _ said (fun _ h => by cases h) (by kernel_rfl) (fun _ h => by cases h) fnExactProvesPrefix_row_tie rfl ⟨rfl, rfl⟩ (by kernel_rfl) rfl plain (by kernel_rfl)
end Go.Proofs.YtbnepdecfnhgoabDoor.fnExactProvesPrefix
