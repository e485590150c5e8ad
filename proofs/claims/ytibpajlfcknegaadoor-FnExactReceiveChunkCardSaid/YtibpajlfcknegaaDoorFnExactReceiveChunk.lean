/-
  For every []string and every string (the law passes over those whose number and bytes exceed its bounds), impl's ReceiveChunk returns the same list and bool as the specification's, in memory of its own, and leaves its argument as it was: the law returns true and changes nothing that was there; the three variables read as they did. The card ties the listed variables to the program's text. No other condition.
-/
import Derived.Test.YtibpajlfcknegaaDoorKitSen
import Derived.Test.YtibpajlfcknegaaDoorS7Recv
import Derived.Test.YtibpajlfcknegaaDoorTxtMark
import Derived.Test.YtibpajlfcknegaaDoorCards
import Derived.Test.YtibpajlfcknegaaDoorTie
import Derived.Deep.RegionWith
import Derived.Deep.DeepCutAuto
namespace Go.Proofs.YtibpajlfcknegaaDoor.fnExactReceiveChunk
open Go.ChangeShapes Go.WideShapes Go.ChangeAt Go.RowKit
open Go.ChangeMaps (open_string shut_string)
set_option linter.unusedVariables false
set_option linter.unusedSimpArgs false

set_option maxRecDepth 100000 in
set_option maxHeartbeats 16000000 in
theorem walk (a0 : Option Addr) (c0 : Nat) (L0 : List ByteArray) (a1 : ByteArray) (w : World) (wa0 : kit.AtZ w a0 L0) (wl0 : L0.length ≤ maxLen) (w1 : a1.size ≤ maxLen) (hT : kit.Tab w) (hM : kit.MS w) :
    Calls Tryd.prog 5 #[.slice a0 L0.length c0, .string a1] w fun e w' => e = .returned (.bool true) ∧ Below w.heap.size w w' := by
  unfold maxLen at wl0
  have HA0' := Lib.hid (kit.atZ_low wa0)
  have HA0 := Lib.hid wa0
  clear wa0
  unfold maxLen at w1
  have HB := Lib.hid (Below.refl w.heap.size w)
  have hz : w.heap.size ≤ w.heap.size := Nat.le_refl _
  by_cases hbig : a1.size > 1048576
  · go_enter Tryd.func5, Tryd.ntmps5
    go_wp2_with fail
    go_ret
    exact ⟨rfl, Below.refl _ _⟩
  go_enter Tryd.func5, Tryd.ntmps5
  go_wp2_with fail
  refine (kit.szStringS a0 c0 L0 1048576 w (by omega) (by omega) HA0.out).mono ?_
  rintro e w1 ⟨rfl, hb⟩
  replace HB := Lib.hid (HB.out.trans (hb.mono hz))
  replace hz := Nat.le_trans hz hb.size
  have HZw1 := Lib.hid hb.size
  replace HA0 := Lib.hid (HA0.out.later hb)
  clear hb
  by_cases hs1 : ¬ L0.length + kit.sumW L0 L0.length ≤ 1048576
  · rw [if_neg hs1]
    go_wp2_with fail
    go_ret
    exact ⟨rfl, HB.out⟩
  replace hs1 := Decidable.not_not.1 hs1
  rw [if_pos hs1]
  go_wp2_with fail
  refine (kit.toStringS a0 c0 L0 w1 (by omega) HA0.out).mono ?_
  rintro e w2 ⟨u3, rfl, ho, hb⟩
  obtain ⟨yr4, qr4, rfl⟩ := ho.shape
  replace HB := Lib.hid (HB.out.trans (hb.mono hz))
  replace hz := Nat.le_trans hz hb.size
  have HZw2 := Lib.hid hb.size
  replace HA0 := Lib.hid (HA0.out.later hb)
  have HOr4 := Lib.hid ho
  have HUr4 := Lib.hid ho.block
  clear ho
  clear hb
  go_wp2_with fail
  refine (kit.specReceiveChunk _ (.slice yr4 L0.length qr4) L0 a1 w2 (by omega) (by omega) HOr4.out (by omega)).mono ?_
  rintro e w5 ⟨uW, he, hoW, hb⟩
  generalize hT1 : kit.recL L0 a1 = T1 at hoW
  have lT1 : T1.length ≤ 4194304 := by rw [← hT1]; exact kit.recL_len _ _ (by omega)
  have HT1 := Lib.hid hT1
  clear hT1
  generalize hT2 : kit.recOk L0 a1 = T2 at he
  have HT2 := Lib.hid hT2
  clear hT2
  obtain ⟨yr6, qr6, rfl⟩ := hoW.shape
  subst he
  replace HB := Lib.hid (HB.out.trans (hb.mono hz))
  replace hz := Nat.le_trans hz hb.size
  have HZw5 := Lib.hid hb.size
  replace HOr4 := Lib.hid (HOr4.out.later hb)
  replace HA0 := Lib.hid (HA0.out.later hb)
  have HOr6 := Lib.hid hoW
  have HUr6 := Lib.hid hoW.block
  clear hoW
  clear hb
  go_wp2_with fail
  refine (kit.toStringS a0 c0 L0 w5 (by omega) HA0.out).mono ?_
  rintro e w7 ⟨u8, rfl, ho, hb⟩
  obtain ⟨yr9, qr9, rfl⟩ := ho.shape
  replace HB := Lib.hid (HB.out.trans (hb.mono hz))
  replace hz := Nat.le_trans hz hb.size
  have HZw7 := Lib.hid hb.size
  replace HOr4 := Lib.hid (HOr4.out.later hb)
  replace HOr6 := Lib.hid (HOr6.out.later hb)
  replace HA0 := Lib.hid (HA0.out.later hb)
  have HOr9 := Lib.hid ho
  have HUr9 := Lib.hid ho.block
  clear ho
  clear hb
  go_wp2_with fail
  refine (kit.implReceiveChunkM _ (.slice yr9 L0.length qr9) L0 a1 w7 (by omega) (by omega) HOr9.out (by omega) (hT.below HB.out) (hM.below HB.out)).mono ?_
  rintro e w10 ⟨uW, he, hoW, hb⟩
  rw [HT1.out] at hoW
  rw [HT2.out] at he
  obtain ⟨yr11, qr11, rfl⟩ := hoW.shape
  subst he
  replace HB := Lib.hid (HB.out.trans (hb.mono hz))
  replace hz := Nat.le_trans hz hb.size
  have HZw10 := Lib.hid hb.size
  replace HOr4 := Lib.hid (HOr4.out.later hb)
  replace HOr6 := Lib.hid (HOr6.out.later hb)
  replace HOr9 := Lib.hid (HOr9.out.later hb)
  replace HA0 := Lib.hid (HA0.out.later hb)
  have HOr11 := Lib.hid hoW
  have HUr11 := Lib.hid hoW.block
  clear hoW
  clear hb
  go_wp2_with fail
  refine (kit.eqStringSO _ _ (.slice yr11 T1.length qr11) (.slice yr6 T1.length qr6) T1 T1 w10 (by omega) (by omega) HOr11.out HOr6.out).mono ?_
  rintro e w12 ⟨he, hb⟩
  rw [decide_eq_true rfl] at he
  subst he
  replace HB := Lib.hid (HB.out.trans (hb.mono hz))
  replace hz := Nat.le_trans hz hb.size
  have HZw12 := Lib.hid hb.size
  replace HOr4 := Lib.hid (HOr4.out.later hb)
  replace HOr6 := Lib.hid (HOr6.out.later hb)
  replace HOr9 := Lib.hid (HOr9.out.later hb)
  replace HOr11 := Lib.hid (HOr11.out.later hb)
  replace HA0 := Lib.hid (HA0.out.later hb)
  clear hb
  go_wp2_with fail
  refine (kit.toStringS a0 c0 L0 w12 (by omega) HA0.out).mono ?_
  rintro e w13 ⟨u14, rfl, ho, hb⟩
  obtain ⟨yr15, qr15, rfl⟩ := ho.shape
  replace HB := Lib.hid (HB.out.trans (hb.mono hz))
  replace hz := Nat.le_trans hz hb.size
  have HZw13 := Lib.hid hb.size
  replace HOr4 := Lib.hid (HOr4.out.later hb)
  replace HOr6 := Lib.hid (HOr6.out.later hb)
  replace HOr9 := Lib.hid (HOr9.out.later hb)
  replace HOr11 := Lib.hid (HOr11.out.later hb)
  replace HA0 := Lib.hid (HA0.out.later hb)
  have HOr15 := Lib.hid ho
  have HUr15 := Lib.hid ho.block
  clear ho
  clear hb
  go_wp2_with fail
  refine (kit.eqStringSO _ _ (.slice yr9 L0.length qr9) (.slice yr15 L0.length qr15) L0 L0 w13 (by omega) (by omega) HOr9.out HOr15.out).mono ?_
  rintro e w16 ⟨he, hb⟩
  rw [decide_eq_true rfl] at he
  subst he
  replace HB := Lib.hid (HB.out.trans (hb.mono hz))
  replace hz := Nat.le_trans hz hb.size
  have HZw16 := Lib.hid hb.size
  replace HOr4 := Lib.hid (HOr4.out.later hb)
  replace HOr6 := Lib.hid (HOr6.out.later hb)
  replace HOr9 := Lib.hid (HOr9.out.later hb)
  replace HOr11 := Lib.hid (HOr11.out.later hb)
  replace HOr15 := Lib.hid (HOr15.out.later hb)
  replace HA0 := Lib.hid (HA0.out.later hb)
  clear hb
  go_wp2_with fail
  refine (kit.markStringS _ 1 (.slice yr9 L0.length qr9) L0 w16 (by omega) (by omega) (by omega) HOr9.out).mono ?_
  rintro e w17 ⟨rfl, ho, hg1⟩
  have hb : Below w.heap.size w16 w17 := (Below.refl w.heap.size w16).grown hg1 hz (fun g h => by have := HUr9.out g h; have := HZw1.out; have := HZw2.out; have := HZw5.out; have := HZw7.out; have := HZw10.out; have := HZw12.out; have := HZw13.out; have := HZw16.out; omega)
  have hs : w16.heap.size ≤ w17.heap.size := hb.size
  replace HOr4 := Lib.hid (HOr4.out.marked hg1 (fun g a c => by have h3 := HUr9.out g a; have h4 := HUr4.out g c; have := HZw1.out; have := HZw2.out; have := HZw5.out; have := HZw7.out; have := HZw10.out; have := HZw12.out; have := HZw13.out; have := HZw16.out; omega))
  replace HOr6 := Lib.hid (HOr6.out.marked hg1 (fun g a c => by have h3 := HUr9.out g a; have h4 := HUr6.out g c; have := HZw1.out; have := HZw2.out; have := HZw5.out; have := HZw7.out; have := HZw10.out; have := HZw12.out; have := HZw13.out; have := HZw16.out; omega))
  replace HOr11 := Lib.hid (HOr11.out.marked hg1 (fun g a c => by have h3 := HUr9.out g a; have h4 := HUr11.out g c; have := HZw1.out; have := HZw2.out; have := HZw5.out; have := HZw7.out; have := HZw10.out; have := HZw12.out; have := HZw13.out; have := HZw16.out; omega))
  replace HOr15 := Lib.hid (HOr15.out.marked hg1 (fun g a c => by have h3 := HUr9.out g a; have h4 := HUr15.out g c; have := HZw1.out; have := HZw2.out; have := HZw5.out; have := HZw7.out; have := HZw10.out; have := HZw12.out; have := HZw13.out; have := HZw16.out; omega))
  replace HA0 := Lib.hid (HA0.out.below hb (HA0'.out))
  replace HB := Lib.hid (HB.out.trans hb)
  replace hz := Nat.le_trans hz hs
  have HZw17 := Lib.hid hs
  replace HOr9 := Lib.hid ho
  clear hb hs hg1 ho
  go_wp2_with fail
  refine (kit.eqStringSO _ _ (.slice yr11 T1.length qr11) (.slice yr6 T1.length qr6) T1 T1 w17 (by omega) (by omega) HOr11.out HOr6.out).mono ?_
  rintro e w18 ⟨he, hb⟩
  rw [decide_eq_true rfl] at he
  subst he
  replace HB := Lib.hid (HB.out.trans (hb.mono hz))
  replace hz := Nat.le_trans hz hb.size
  have HZw18 := Lib.hid hb.size
  replace HOr4 := Lib.hid (HOr4.out.later hb)
  replace HOr6 := Lib.hid (HOr6.out.later hb)
  replace HOr9 := Lib.hid (HOr9.out.later hb)
  replace HOr11 := Lib.hid (HOr11.out.later hb)
  replace HOr15 := Lib.hid (HOr15.out.later hb)
  replace HA0 := Lib.hid (HA0.out.later hb)
  clear hb
  go_wp2_with fail
  refine (kit.markStringS _ 1 (.slice yr11 T1.length qr11) T1 w18 (by omega) (by omega) (by omega) HOr11.out).mono ?_
  rintro e w19 ⟨rfl, ho, hg1⟩
  have hb : Below w.heap.size w18 w19 := (Below.refl w.heap.size w18).grown hg1 hz (fun g h => by have := HUr11.out g h; have := HZw1.out; have := HZw2.out; have := HZw5.out; have := HZw7.out; have := HZw10.out; have := HZw12.out; have := HZw13.out; have := HZw16.out; have := HZw17.out; have := HZw18.out; omega)
  have hs : w18.heap.size ≤ w19.heap.size := hb.size
  replace HOr4 := Lib.hid (HOr4.out.marked hg1 (fun g a c => by have h3 := HUr11.out g a; have h4 := HUr4.out g c; have := HZw1.out; have := HZw2.out; have := HZw5.out; have := HZw7.out; have := HZw10.out; have := HZw12.out; have := HZw13.out; have := HZw16.out; have := HZw17.out; have := HZw18.out; omega))
  replace HOr6 := Lib.hid (HOr6.out.marked hg1 (fun g a c => by have h3 := HUr11.out g a; have h4 := HUr6.out g c; have := HZw1.out; have := HZw2.out; have := HZw5.out; have := HZw7.out; have := HZw10.out; have := HZw12.out; have := HZw13.out; have := HZw16.out; have := HZw17.out; have := HZw18.out; omega))
  replace HOr9 := Lib.hid (HOr9.out.marked hg1 (fun g a c => by have h3 := HUr11.out g a; have h4 := HUr9.out g c; have := HZw1.out; have := HZw2.out; have := HZw5.out; have := HZw7.out; have := HZw10.out; have := HZw12.out; have := HZw13.out; have := HZw16.out; have := HZw17.out; have := HZw18.out; omega))
  replace HOr15 := Lib.hid (HOr15.out.marked hg1 (fun g a c => by have h3 := HUr11.out g a; have h4 := HUr15.out g c; have := HZw1.out; have := HZw2.out; have := HZw5.out; have := HZw7.out; have := HZw10.out; have := HZw12.out; have := HZw13.out; have := HZw16.out; have := HZw17.out; have := HZw18.out; omega))
  replace HA0 := Lib.hid (HA0.out.below hb (HA0'.out))
  replace HB := Lib.hid (HB.out.trans hb)
  replace hz := Nat.le_trans hz hs
  have HZw19 := Lib.hid hs
  replace HOr11 := Lib.hid ho
  clear hb hs hg1 ho
  go_wp2_with fail
  refine (kit.heldStringS _ 1 (T1.length) (.slice yr11 T1.length qr11) w19 (by omega) (by omega) (by omega) HOr11.out).mono ?_
  rintro e w20 ⟨rfl, hb⟩
  replace HB := Lib.hid (HB.out.trans (hb.mono hz))
  replace hz := Nat.le_trans hz hb.size
  have HZw20 := Lib.hid hb.size
  replace HOr4 := Lib.hid (HOr4.out.later hb)
  replace HOr6 := Lib.hid (HOr6.out.later hb)
  replace HOr9 := Lib.hid (HOr9.out.later hb)
  replace HOr11 := Lib.hid (HOr11.out.later hb)
  replace HOr15 := Lib.hid (HOr15.out.later hb)
  replace HA0 := Lib.hid (HA0.out.later hb)
  clear hb
  go_wp2_with fail
  refine (kit.toStringS a0 c0 L0 w20 (by omega) HA0.out).mono ?_
  rintro e w21 ⟨u22, rfl, ho, hb⟩
  obtain ⟨yr23, qr23, rfl⟩ := ho.shape
  replace HB := Lib.hid (HB.out.trans (hb.mono hz))
  replace hz := Nat.le_trans hz hb.size
  have HZw21 := Lib.hid hb.size
  replace HOr4 := Lib.hid (HOr4.out.later hb)
  replace HOr6 := Lib.hid (HOr6.out.later hb)
  replace HOr9 := Lib.hid (HOr9.out.later hb)
  replace HOr11 := Lib.hid (HOr11.out.later hb)
  replace HOr15 := Lib.hid (HOr15.out.later hb)
  replace HA0 := Lib.hid (HA0.out.later hb)
  have HOr23 := Lib.hid ho
  have HUr23 := Lib.hid ho.block
  clear ho
  clear hb
  go_wp2_with fail
  refine (kit.implReceiveChunkM _ (.slice yr23 L0.length qr23) L0 a1 w21 (by omega) (by omega) HOr23.out (by omega) (hT.below HB.out) (hM.below HB.out)).mono ?_
  rintro e w24 ⟨uW, he, hoW, hb⟩
  rw [HT1.out] at hoW
  rw [HT2.out] at he
  obtain ⟨yr25, qr25, rfl⟩ := hoW.shape
  subst he
  replace HB := Lib.hid (HB.out.trans (hb.mono hz))
  replace hz := Nat.le_trans hz hb.size
  have HZw24 := Lib.hid hb.size
  replace HOr4 := Lib.hid (HOr4.out.later hb)
  replace HOr6 := Lib.hid (HOr6.out.later hb)
  replace HOr9 := Lib.hid (HOr9.out.later hb)
  replace HOr11 := Lib.hid (HOr11.out.later hb)
  replace HOr15 := Lib.hid (HOr15.out.later hb)
  replace HOr23 := Lib.hid (HOr23.out.later hb)
  replace HA0 := Lib.hid (HA0.out.later hb)
  have HOr25 := Lib.hid hoW
  have HUr25 := Lib.hid hoW.block
  clear hoW
  clear hb
  go_wp2_with fail
  refine (kit.eqStringSO _ _ (.slice yr25 T1.length qr25) (.slice yr6 T1.length qr6) T1 T1 w24 (by omega) (by omega) HOr25.out HOr6.out).mono ?_
  rintro e w26 ⟨he, hb⟩
  rw [decide_eq_true rfl] at he
  subst he
  replace HB := Lib.hid (HB.out.trans (hb.mono hz))
  replace hz := Nat.le_trans hz hb.size
  have HZw26 := Lib.hid hb.size
  replace HOr4 := Lib.hid (HOr4.out.later hb)
  replace HOr6 := Lib.hid (HOr6.out.later hb)
  replace HOr9 := Lib.hid (HOr9.out.later hb)
  replace HOr11 := Lib.hid (HOr11.out.later hb)
  replace HOr15 := Lib.hid (HOr15.out.later hb)
  replace HOr23 := Lib.hid (HOr23.out.later hb)
  replace HOr25 := Lib.hid (HOr25.out.later hb)
  replace HA0 := Lib.hid (HA0.out.later hb)
  clear hb
  go_wp2_with fail
  refine (kit.heldStringS _ 1 (T1.length) (.slice yr11 T1.length qr11) w26 (by omega) (by omega) (by omega) HOr11.out).mono ?_
  rintro e w27 ⟨rfl, hb⟩
  replace HB := Lib.hid (HB.out.trans (hb.mono hz))
  replace hz := Nat.le_trans hz hb.size
  have HZw27 := Lib.hid hb.size
  replace HOr4 := Lib.hid (HOr4.out.later hb)
  replace HOr6 := Lib.hid (HOr6.out.later hb)
  replace HOr9 := Lib.hid (HOr9.out.later hb)
  replace HOr11 := Lib.hid (HOr11.out.later hb)
  replace HOr15 := Lib.hid (HOr15.out.later hb)
  replace HOr23 := Lib.hid (HOr23.out.later hb)
  replace HOr25 := Lib.hid (HOr25.out.later hb)
  replace HA0 := Lib.hid (HA0.out.later hb)
  clear hb
  go_wp2_with fail
  go_ret
  exact ⟨rfl, HB.out⟩
set_option maxRecDepth 100000 in
theorem contract (H : Type) (enc : TypeId × Value → H) (W : World) (base : Nat) (args : Array Value) (ds gs : List (DataW H)) (before : List MemPlace)
    (hval0 : ∀ (j : Nat) t v, Tryd.f5.params[j]? = some t → args[j]? = some v → Value.okWide Tryd.prog W .any base t v)
    (hW : DataW.Whole enc Tryd.prog Tryd.f5.params.toList Rows.fnExactReceiveChunkSpec.vars false W args.toList ds gs before) (hL : laidMetH Tryd.prog Rows.fnExactReceiveChunkRow.laid W) (hS : W.ShapedOpen Tryd.prog) :
    Calls Tryd.prog 5 args W fun e W' => ∃ v, e = .returned v ∧ Rows.fnExactReceiveChunkSpec.post enc Tryd.prog Tryd.f5 false true false false W args v W' := by
  have hT : kit.Tab W := kit.tab_of_laid (by kernel_rfl) hL
  have hval : ∀ (j : Nat) t v, Tryd.f5.params[j]? = some t → args[j]? = some v → Value.okWide Tryd.prog W .any base t v := hval0
  have hW' := hW
  obtain ⟨p, q, hA0, hV, rfl, hfz, hnd⟩ := hW
  have hA : DataW.TrodAll enc Tryd.prog W 0 (fun _ => true) true Tryd.f5.params.toList args.toList ds p := hA0
  rw [Tryd.params5] at hA hval
  obtain ⟨v0, vs0, d0, ds0, p0, q0, hargs, rfl, rfl, h0, r0⟩ := trodAll_cons hA
  obtain ⟨v1, vs1, d1, ds1, p1, q1, rfl, rfl, rfl, h1, r1⟩ := trodAll_cons r0
  obtain ⟨rfl, rfl, rfl⟩ := trodAll_nil r1
  obtain rfl : args = #[v0, v1] := by cases args; simp_all
  obtain ⟨g1, g2, g3, rfl⟩ := kit.trodVars_three hV
  have k0 := h0
  have lt0 : ∀ x ∈ p0, x.block < W.heap.size := by obtain ⟨m, hm⟩ := k0; exact DataW.trod_lt m _ _ _ hm
  obtain ⟨a0, len0, cap0, rfl⟩ := okWide_slice Tryd.underlying37 (hval 0 37 v0 rfl rfl)
  obtain ⟨a0', c0, L0, he0, wa0, wl0⟩ := kit.open_strV h0 lt0 rfl
  injection he0 with he0a he0b he0c
  subst he0a he0b he0c
  obtain ⟨a1, rfl, rfl, rfl, w1⟩ := open_string Tryd.underlying9 (hval 1 9 v1 rfl rfl) h1
  clear hA0 hval0
  refine (walk _ _ L0 a1 W wa0 wl0 w1 hT ⟨kit.mx_of_shape hS, kit.sen_of_laid (by kernel_rfl) (by kernel_rfl) hL⟩).mono fun e W' ⟨he, bel⟩ => ?_
  subst he
  exact ⟨_, rfl, _, _, _, [], _, _, hW', trodAll_mk1 (shut_bool Tryd.underlying4 _), (trodAll_cons_mk (Below.trod kit.laidOut (by kernel_rfl) (of_decide_eq_true (by kernel_rfl)) k0 bel lt0) (trodAll_cons_mk (shut_string Tryd.underlying9 w1) trodAll_mk0)), Below.trodVars kit.laidOut bel (by kernel_rfl) hV, bel.frame _, fun h => by cases h⟩

noncomputable def laidWorld (os : Os) : World :=
  { World.holding Tryd.prog os ⟨kit.senObjs, #[], []⟩ with heap := kit.laidSen (kit.laidCells (kit.laidCells (kit.laidCells (World.holding Tryd.prog os ⟨kit.senObjs, #[], []⟩).heap 7 Rows.laid_math_bits_deBruijn32tab) 8 Rows.laid_math_bits_deBruijn64tab) 6 Rows.laid_internal_strconv_uint64pow10) }
theorem laid_met (os : Os) : laidMet Tryd.prog Rows.fnExactReceiveChunkRow.laid ((laidWorld os).forCall (fun _ _ => 0) ⟨#[], #[.slice none 0 0, .string ByteArray.empty], []⟩).memory :=
  laidMet_of_run' 8 (by kernel_rfl) (by kernel_rfl)
theorem reads (os : Os) {H : Type} (enc : TypeId × Value → H) : (DataW.whole enc Tryd.prog ((laidWorld os).forCall (fun _ _ => 0) ⟨#[], #[.slice none 0 0, .string ByteArray.empty], []⟩).memory Tryd.f5.params.toList Rows.fnExactReceiveChunkSpec.vars false (#[.slice none 0 0, .string ByteArray.empty] : Array Value).toList 8).isSome = true :=
  by kernel_rfl
set_option maxRecDepth 100000 in
theorem lifted (os : Os) (started : os.Started) (H : Type) (enc : TypeId × Value → H) (F : Stop.Interp) :
    ReturnsInHanded {} Tryd.checked os 5 .any ((OpenSpec.ofChange Rows.fnExactReceiveChunkSpec).preRow enc Tryd.prog Tryd.f5 Rows.fnExactReceiveChunkRow.domain false Rows.fnExactReceiveChunkRow.laid) (((OpenSpec.ofChange Rows.fnExactReceiveChunkSpec).at F).post enc Tryd.prog Tryd.f5 false true false false) := by
  obtain ⟨x, hx⟩ := Option.isSome_iff_exists.1 (reads os enc)
  refine returnsInHanded_of_row (C := Tryd.checked) (s := OpenSpec.ofChange Rows.fnExactReceiveChunkSpec) kit.own started (by kernel_rfl) Tryd.func5
    (witness_row_at (enc := enc) (C := Tryd.checked) false (laidWorld os) #[.slice none 0 0, .string ByteArray.empty] rfl (by kernel_rfl) (by kernel_rfl) (by kernel_rfl)
      (OpenSpec.preRow_of_cond 8 hx (by kernel_rfl) (fun k hk => by cases hk) (by kernel_rfl) (laid_met os))) ?_
  intro W base args ds gs before hval hW _ _ _ hL hS _
  exact contract H enc W base args ds gs before hval hW hL hS
theorem said : Rows.FnExactReceiveChunkSaid :=
  OpenClaim.holds_of_cond 5 Tryd.f5 rfl rfl rfl rfl rfl rfl rfl ⟨rfl, rfl, rfl, rfl, rfl⟩ rfl rfl rfl rfl rfl (by kernel_rfl) Tryd.func5 (by kernel_rfl)
    (of_decide_eq_true (by kernel_rfl)) (by unfold Func.isWrapper; first | (rw [if_pos (by decide +kernel)]; kernel_rfl) | (rw [if_neg (by decide +kernel)]; exact ⟨rfl, rfl⟩))
    (fun os started H enc _ F => by rw [OpenClaim.pre_eq_preRow]; exact lifted os started H enc F)
theorem plain (f : FuncId) (fn : Func) (hf : Tryd.pinned.checked.prog.funcNamed "loop.example/g01926/laws.FnExactReceiveChunk" = some f) (hfn : Tryd.pinned.checked.prog.funcs[f]? = some fn) :
    true = Tryd.pinned.checked.prog.looks [] ∧ ∀ (j : Nat) t, fn.params[j]? = some t → Tryd.pinned.checked.prog.wantsStandIn t = false := by
  obtain rfl : f = 5 := Option.some.inj ((show Tryd.prog.funcNamed "loop.example/g01926/laws.FnExactReceiveChunk" = some 5 by kernel_rfl).symm.trans hf) |>.symm
  obtain rfl : fn = Tryd.f5 := (Option.some.inj (Tryd.func5.symm.trans hfn)).symm
  refine ⟨by kernel_rfl, fun j t ht => ?_⟩
  rw [Tryd.params5] at ht
  have hm := Array.mem_of_getElem? ht
  have hall : ∀ t ∈ (#[37, 9] : Array TypeId), Tryd.prog.wantsStandIn t = false := by
    intro t ht
    simp only [List.mem_toArray, List.mem_cons, List.not_mem_nil, or_false] at ht
    rcases ht with rfl | rfl
    · exact (show Tryd.prog.wantsStandIn 37 = false by kernel_rfl)
    · exact (show Tryd.prog.wantsStandIn 9 = false by kernel_rfl)
  exact hall t hm
theorem proved : Rows.FnExactReceiveChunkCardSaid :=
  Claim7.holds_tied_plain_at .later [] _ _ _ _ said (fun _ h => by cases h) (by kernel_rfl) (fun _ h => by cases h) fnExactReceiveChunk_row_tie rfl ⟨rfl, rfl⟩ (by kernel_rfl) rfl plain (by kernel_rfl)
end Go.Proofs.YtibpajlfcknegaaDoor.fnExactReceiveChunk
