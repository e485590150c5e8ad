/-
  For every []Entry and every int (the law passes over lists with more than 2^20 entries), impl's ResultAt returns the same result and bool as the specification's and leaves its argument as it was: the law returns true and changes nothing that was there. No condition.
-/
import Derived.Test.YtbnepdecfnhgoaaS5Res
import Derived.Test.YtbnepdecfnhgoaaEnts3
import Derived.Deep.RegionWith
namespace Go.Proofs.Ytbnepdecfnhgoaa.fnExactResultAt
open Go.ChangeShapes Go.WideShapes Go.ChangeAt Go.RowKit
set_option linter.unusedVariables false
set_option linter.unusedSimpArgs false

set_option maxRecDepth 100000 in
set_option maxHeartbeats 16000000 in
theorem walk (a0 : Option Addr) (c0 : Nat) (L0 : List kit.Ent) (a1 : Int) (w : World) (wa0 : kit.AtE w a0 L0) (wl0 : L0.length ≤ maxLen) (w1 : (Lit.int .i64 a1).wf = true) :
    Calls Try.prog 7 #[.slice a0 L0.length c0, .int .i64 a1] w fun e w' => e = .returned (.bool true) ∧ Below w.heap.size w w' := by
  unfold maxLen at wl0
  have HA0' := Lib.hid (kit.atE_low wa0)
  have HA0 := Lib.hid wa0
  clear wa0
  have HB := Lib.hid (Below.refl w.heap.size w)
  have hz : w.heap.size ≤ w.heap.size := Nat.le_refl _
  go_enter Try.func7, Try.ntmps7
  go_wp2_with fail
  refine (kit.szEntryS a0 L0.length c0 (1048576) w (by omega) (by omega) (by omega)).mono ?_
  rintro e w1 ⟨rfl, hw⟩
  subst hw
  by_cases hs1 : ¬ (L0.length : Int) ≤ 1048576
  · rw [if_neg hs1]
    go_wp2_with fail
    go_ret
    exact ⟨rfl, HB.out⟩
  replace hs1 := Decidable.not_not.1 hs1
  rw [if_pos hs1]
  go_wp2_with fail
  refine (kit.toEntryS a0 c0 L0 w (by omega) HA0.out).mono ?_
  rintro e w2 ⟨u3, rfl, ho, hb⟩
  obtain ⟨yr4, qr4, rfl⟩ := ho.shape
  replace HB := Lib.hid (HB.out.trans (hb.mono hz))
  replace hz := Nat.le_trans hz hb.size
  have HZw2 := Lib.hid hb.size
  replace HA0 := Lib.hid (HA0.out.later hb)
  have HOr4 := Lib.hid ho
  have HUr4 := Lib.hid ho.block
  clear ho
  clear hb
  go_wp2_with fail
  refine (kit.specResultAt _ (.slice yr4 L0.length qr4) L0 a1 w2 (by omega) HOr4.out).mono ?_
  rintro e w5 ⟨he, hb⟩
  generalize hT1 : kit.resD L0 a1 = T1 at he
  have HT1 := Lib.hid hT1
  clear hT1
  generalize hT2 : kit.resV L0 a1 = T2 at he
  have HT2 := Lib.hid hT2
  clear hT2
  generalize hT3 : kit.resB L0 a1 = T3 at he
  have HT3 := Lib.hid hT3
  clear hT3
  subst he
  replace HB := Lib.hid (HB.out.trans (hb.mono hz))
  replace hz := Nat.le_trans hz hb.size
  have HZw5 := Lib.hid hb.size
  replace HOr4 := Lib.hid (HOr4.out.later hb)
  replace HA0 := Lib.hid (HA0.out.later hb)
  clear hb
  go_wp2_with fail
  obtain ⟨w6, hw6⟩ : ∃ W, W = w5.alloc (.cells #[.bool T1, .int .i64 T2] 33) := ⟨_, rfl⟩
  rw [← hw6]
  obtain ⟨pw6, epw6⟩ : ∃ p, p = w5.heap.size := ⟨_, rfl⟩
  rw [← epw6]
  have Epw6 := Lib.hid epw6
  have epw6' := Epw6.out
  clear epw6
  have xpw6_0 : w6.cell? ⟨pw6, 0, none⟩ = some (.bool T1) := by rw [hw6, epw6', World.cell?_alloc_at _ _ _ _ rfl]; rfl
  have xpw6_1 : w6.cell? ⟨pw6, 1, none⟩ = some (.int .i64 T2) := by rw [hw6, epw6', World.cell?_alloc_at _ _ _ _ rfl]; rfl
  have hpw6 : pw6 < w6.heap.size := by rw [hw6, epw6', World.size_alloc]; exact Nat.lt_succ_self _
  have hb : Below w5.heap.size w5 w6 := by rw [hw6]; exact (Below.refl _ _).alloc (Nat.le_refl _) _
  have Sw6 := Lib.hid (show w6.heap.size = w5.heap.size + 1 by rw [hw6, World.size_alloc])
  replace HB := Lib.hid (HB.out.trans (hb.mono hz))
  replace hz := Nat.le_trans hz hb.size
  have HZw6 := Lib.hid hb.size
  replace HOr4 := Lib.hid (HOr4.out.later hb)
  replace HA0 := Lib.hid (HA0.out.later hb)
  clear hb
  clear epw6' hw6
  refine (kit.toEntryS a0 c0 L0 w6 (by omega) HA0.out).mono ?_
  rintro e w7 ⟨u8, rfl, ho, hb⟩
  obtain ⟨yr9, qr9, rfl⟩ := ho.shape
  replace xpw6_0 := (hb.cell (p := ⟨pw6, 0, none⟩) hpw6).trans xpw6_0
  replace xpw6_1 := (hb.cell (p := ⟨pw6, 1, none⟩) hpw6).trans xpw6_1
  replace hpw6 := Nat.lt_of_lt_of_le hpw6 hb.size
  replace HB := Lib.hid (HB.out.trans (hb.mono hz))
  replace hz := Nat.le_trans hz hb.size
  have HZw7 := Lib.hid hb.size
  replace HOr4 := Lib.hid (HOr4.out.later hb)
  replace HA0 := Lib.hid (HA0.out.later hb)
  have HOr9 := Lib.hid ho
  have HUr9 := Lib.hid ho.block
  clear ho
  clear hb
  go_wp2_with fail
  refine (kit.implResultAt _ (.slice yr9 L0.length qr9) L0 a1 w7 (by omega) HOr9.out).mono ?_
  rintro e w10 ⟨he, hb⟩
  rw [HT1.out] at he
  rw [HT2.out] at he
  rw [HT3.out] at he
  subst he
  replace xpw6_0 := (hb.cell (p := ⟨pw6, 0, none⟩) hpw6).trans xpw6_0
  replace xpw6_1 := (hb.cell (p := ⟨pw6, 1, none⟩) hpw6).trans xpw6_1
  replace hpw6 := Nat.lt_of_lt_of_le hpw6 hb.size
  replace HB := Lib.hid (HB.out.trans (hb.mono hz))
  replace hz := Nat.le_trans hz hb.size
  have HZw10 := Lib.hid hb.size
  replace HOr4 := Lib.hid (HOr4.out.later hb)
  replace HOr9 := Lib.hid (HOr9.out.later hb)
  replace HA0 := Lib.hid (HA0.out.later hb)
  clear hb
  go_wp2_with fail
  obtain ⟨w11, hw11⟩ : ∃ W, W = w10.alloc (.cells #[.bool T1, .int .i64 T2] 33) := ⟨_, rfl⟩
  rw [← hw11]
  obtain ⟨pw11, epw11⟩ : ∃ p, p = w10.heap.size := ⟨_, rfl⟩
  rw [← epw11]
  have Epw11 := Lib.hid epw11
  have epw11' := Epw11.out
  clear epw11
  have xpw11_0 : w11.cell? ⟨pw11, 0, none⟩ = some (.bool T1) := by rw [hw11, epw11', World.cell?_alloc_at _ _ _ _ rfl]; rfl
  have xpw11_1 : w11.cell? ⟨pw11, 1, none⟩ = some (.int .i64 T2) := by rw [hw11, epw11', World.cell?_alloc_at _ _ _ _ rfl]; rfl
  have hpw11 : pw11 < w11.heap.size := by rw [hw11, epw11', World.size_alloc]; exact Nat.lt_succ_self _
  have hb : Below w10.heap.size w10 w11 := by rw [hw11]; exact (Below.refl _ _).alloc (Nat.le_refl _) _
  have Sw11 := Lib.hid (show w11.heap.size = w10.heap.size + 1 by rw [hw11, World.size_alloc])
  replace xpw6_0 := (hb.cell (p := ⟨pw6, 0, none⟩) hpw6).trans xpw6_0
  replace xpw6_1 := (hb.cell (p := ⟨pw6, 1, none⟩) hpw6).trans xpw6_1
  replace hpw6 := Nat.lt_of_lt_of_le hpw6 hb.size
  replace HB := Lib.hid (HB.out.trans (hb.mono hz))
  replace hz := Nat.le_trans hz hb.size
  have HZw11 := Lib.hid hb.size
  replace HOr4 := Lib.hid (HOr4.out.later hb)
  replace HOr9 := Lib.hid (HOr9.out.later hb)
  replace HA0 := Lib.hid (HA0.out.later hb)
  clear hb
  clear epw11' hw11
  refine (kit.eqResult T1 T2 T1 T2 w11).mono ?_
  rintro e w12 ⟨he, hb⟩
  rw [decide_eq_true rfl, decide_eq_true rfl] at he
  subst he
  replace xpw6_0 := (hb.cell (p := ⟨pw6, 0, none⟩) hpw6).trans xpw6_0
  replace xpw6_1 := (hb.cell (p := ⟨pw6, 1, none⟩) hpw6).trans xpw6_1
  replace hpw6 := Nat.lt_of_lt_of_le hpw6 hb.size
  replace xpw11_0 := (hb.cell (p := ⟨pw11, 0, none⟩) hpw11).trans xpw11_0
  replace xpw11_1 := (hb.cell (p := ⟨pw11, 1, none⟩) hpw11).trans xpw11_1
  replace hpw11 := Nat.lt_of_lt_of_le hpw11 hb.size
  replace HB := Lib.hid (HB.out.trans (hb.mono hz))
  replace hz := Nat.le_trans hz hb.size
  have HZw12 := Lib.hid hb.size
  replace HOr4 := Lib.hid (HOr4.out.later hb)
  replace HOr9 := Lib.hid (HOr9.out.later hb)
  replace HA0 := Lib.hid (HA0.out.later hb)
  clear hb
  go_wp2_with fail
  refine (kit.toEntryS a0 c0 L0 w12 (by omega) HA0.out).mono ?_
  rintro e w13 ⟨u14, rfl, ho, hb⟩
  obtain ⟨yr15, qr15, rfl⟩ := ho.shape
  replace xpw6_0 := (hb.cell (p := ⟨pw6, 0, none⟩) hpw6).trans xpw6_0
  replace xpw6_1 := (hb.cell (p := ⟨pw6, 1, none⟩) hpw6).trans xpw6_1
  replace hpw6 := Nat.lt_of_lt_of_le hpw6 hb.size
  replace xpw11_0 := (hb.cell (p := ⟨pw11, 0, none⟩) hpw11).trans xpw11_0
  replace xpw11_1 := (hb.cell (p := ⟨pw11, 1, none⟩) hpw11).trans xpw11_1
  replace hpw11 := Nat.lt_of_lt_of_le hpw11 hb.size
  replace HB := Lib.hid (HB.out.trans (hb.mono hz))
  replace hz := Nat.le_trans hz hb.size
  have HZw13 := Lib.hid hb.size
  replace HOr4 := Lib.hid (HOr4.out.later hb)
  replace HOr9 := Lib.hid (HOr9.out.later hb)
  replace HA0 := Lib.hid (HA0.out.later hb)
  have HOr15 := Lib.hid ho
  have HUr15 := Lib.hid ho.block
  clear ho
  clear hb
  go_wp2_with fail
  refine (kit.eqEntrySO _ _ (.slice yr9 L0.length qr9) (.slice yr15 L0.length qr15) L0 L0 w13 (by omega) (by omega) HOr9.out HOr15.out).mono ?_
  rintro e w16 ⟨he, hb⟩
  rw [decide_eq_true rfl] at he
  subst he
  replace xpw6_0 := (hb.cell (p := ⟨pw6, 0, none⟩) hpw6).trans xpw6_0
  replace xpw6_1 := (hb.cell (p := ⟨pw6, 1, none⟩) hpw6).trans xpw6_1
  replace hpw6 := Nat.lt_of_lt_of_le hpw6 hb.size
  replace xpw11_0 := (hb.cell (p := ⟨pw11, 0, none⟩) hpw11).trans xpw11_0
  replace xpw11_1 := (hb.cell (p := ⟨pw11, 1, none⟩) hpw11).trans xpw11_1
  replace hpw11 := Nat.lt_of_lt_of_le hpw11 hb.size
  replace HB := Lib.hid (HB.out.trans (hb.mono hz))
  replace hz := Nat.le_trans hz hb.size
  have HZw16 := Lib.hid hb.size
  replace HOr4 := Lib.hid (HOr4.out.later hb)
  replace HOr9 := Lib.hid (HOr9.out.later hb)
  replace HOr15 := Lib.hid (HOr15.out.later hb)
  replace HA0 := Lib.hid (HA0.out.later hb)
  clear hb
  go_wp2_with fail
  go_ret
  exact ⟨rfl, HB.out⟩
set_option maxRecDepth 100000 in
theorem lifted (os : Os) (started : os.Started) (H : Type) (enc : TypeId × Value → H) :
    ReturnsInHanded {} Try.checked os 7 .any (Rows.fnExactResultAtSpec.pre6 enc Try.prog Try.f7 Rows.fnExactResultAtRow.domain false) (Rows.fnExactResultAtSpec.post enc Try.prog Try.f7 false true false false) := by
  refine returnsInHanded_of_change (C := Try.checked) kit.own started (by kernel_rfl) Try.func7
    (ChangeSpec.witness6 (enc := enc) (C := Try.checked) false ⟨#[], #[.slice none 0 0, .int .i64 0], []⟩ 8 (by kernel_rfl) (by kernel_rfl) (by kernel_rfl) (by kernel_rfl)) ?_
  intro W base args ds gs before hval0 hW hcnd _
  have hval : ∀ (j : Nat) t v, Try.f7.params[j]? = some t → args[j]? = some v → Value.okWide Try.prog W .any base t v := hval0
  have hW' := hW
  obtain ⟨p, q, hA0, hV, rfl, hfz, hnd⟩ := hW
  have hA : DataW.TrodAll enc Try.prog W 0 (fun _ => true) true Try.f7.params.toList args.toList ds p := hA0
  rw [Try.params7] at hA hval
  obtain ⟨v0, vs0, d0, ds0, p0, q0, hargs, rfl, rfl, h0, r0⟩ := trodAll_cons hA
  obtain ⟨v1, vs1, d1, ds1, p1, q1, rfl, rfl, rfl, h1, r1⟩ := trodAll_cons r0
  obtain ⟨rfl, rfl, rfl⟩ := trodAll_nil r1
  obtain rfl : args = #[v0, v1] := by cases args; simp_all
  obtain ⟨rfl, rfl⟩ := trodVars_none hV
  have k0 := h0
  have lt0 : ∀ x ∈ p0, x.block < W.heap.size := by obtain ⟨m, hm⟩ := k0; exact DataW.trod_lt m _ _ _ hm
  obtain ⟨a0, len0, cap0, rfl⟩ := okWide_slice Try.underlying72 (hval 0 72 v0 rfl rfl)
  obtain ⟨a0', c0, L0, he0, wa0, wl0⟩ := kit.open_entV h0 lt0 rfl
  injection he0 with he0a he0b he0c
  subst he0a he0b he0c
  obtain ⟨a1, rfl, rfl, rfl, w1⟩ := open_int Try.underlying3 (hval 1 3 v1 rfl rfl) h1
  clear hA0 hval0
  refine (walk _ _ L0 a1 W wa0 wl0 w1).mono fun e W' ⟨he, bel⟩ => ?_
  subst he
  exact ⟨_, rfl, _, _, _, [], _, [], hW', trodAll_mk1 (shut_bool Try.underlying4 _), (trodAll_cons_mk (Below.trod kit.laidOut (by kernel_rfl) (of_decide_eq_true (by kernel_rfl)) k0 bel lt0) (trodAll_cons_mk (shut_int Try.underlying3 w1) trodAll_mk0)), rfl, bel.frame _, fun h => by cases h⟩

theorem proved : Rows.FnExactResultAtSaid :=
  OpenClaim.holds_of_wide 7 Try.f7 rfl rfl rfl rfl rfl rfl rfl ⟨rfl, rfl, rfl, rfl, rfl⟩ rfl rfl rfl rfl rfl (by kernel_rfl) Try.func7 (by kernel_rfl)
    (of_decide_eq_true (by kernel_rfl)) (by unfold Func.isWrapper; first | (rw [if_pos (by decide +kernel)]; kernel_rfl) | (rw [if_neg (by decide +kernel)]; exact ⟨rfl, rfl⟩))
    (fun os started H enc _ => lifted os started H enc)
end Go.Proofs.Ytbnepdecfnhgoaa.fnExactResultAt
