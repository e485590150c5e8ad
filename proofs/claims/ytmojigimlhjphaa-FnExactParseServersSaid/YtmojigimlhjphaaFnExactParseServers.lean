/-
  For every string of at most 2^20 bytes (the law passes over longer ones), impl's ParseServers returns the same list and the same bool as the specification's, and its answer owns its memory: the law returns true and changes nothing that was there. No other condition.
-/
import Derived.Test.YtmojigimlhjphaaS2ParseImpl
namespace Go.Proofs.Ytmojigimlhjphaa.fnExactParseServers
open Go.ChangeShapes Go.WideShapes Go.ChangeAt Go.RowKit
open Go.ChangeMaps (open_string shut_string)
set_option linter.unusedVariables false

set_option maxRecDepth 100000 in
set_option maxHeartbeats 8000000 in
theorem walk (a0 : ByteArray) (w : World) (w0 : a0.size ≤ maxLen) :
    Calls Try.prog 7 #[.string a0] w fun e w' => e = .returned (.bool true) ∧ Below w.heap.size w w' := by
  unfold maxLen at w0
  by_cases hbig0 : a0.size > 1048576
  · go_enter Try.func7, Try.ntmps7
    go_wp2_with fail
    go_ret
    exact ⟨rfl, Below.refl _ _⟩
  have HB := Lib.hid (Below.refl w.heap.size w)
  have hz0 : w.heap.size ≤ w.heap.size := Nat.le_refl _
  go_enter Try.func7, Try.ntmps7
  go_wp2_with fail
  refine (kit.specParseServers a0 w (by omega)).mono ?_
  rintro e wx1 ⟨v1, he, ho, hb⟩
  generalize hT1 : kit.parseS a0.data.toList = T1 at ho
  have lT1 : T1.length ≤ 4194304 := by rw [← hT1]; exact kit.parseS_len _
  have HT1 := Lib.hid hT1
  clear hT1
  generalize hT2 : kit.parseSok a0.data.toList = T2 at he
  have HT2 := Lib.hid hT2
  clear hT2
  subst he
  have hz1 : w.heap.size ≤ wx1.heap.size := Nat.le_trans hz0 hb.size
  have hy1 : w.heap.size ≤ wx1.heap.size := hb.size
  replace HB := Lib.hid (HB.out.trans (hb.mono hz0))
  have HOv1 := Lib.hid ho
  have HUv1 := Lib.hid ho.block
  clear ho
  clear hb
  go_wp2_with fail
  refine (kit.implParseServers a0 wx1 (by omega)).mono ?_
  rintro e wx2 ⟨v2, he, ho, hb⟩
  rw [HT1.out] at ho
  rw [HT2.out] at he
  subst he
  have hz2 : w.heap.size ≤ wx2.heap.size := Nat.le_trans hz1 hb.size
  have hy2 : wx1.heap.size ≤ wx2.heap.size := hb.size
  replace HB := Lib.hid (HB.out.trans (hb.mono hz1))
  replace HOv1 := Lib.hid (HOv1.out.later hb)
  have HOv2 := Lib.hid ho
  have HUv2 := Lib.hid ho.block
  clear ho
  clear hb
  go_wp2_with fail
  refine (kit.eqIntS _ v2 (T1) _ v1 (T1) wx2 (by omega) HOv2.out (by omega) HOv1.out).mono ?_
  rintro e wx3 ⟨he, hb⟩
  rw [decide_eq_true rfl] at he
  subst he
  have hz3 : w.heap.size ≤ wx3.heap.size := Nat.le_trans hz2 hb.size
  have hy3 : wx2.heap.size ≤ wx3.heap.size := hb.size
  replace HB := Lib.hid (HB.out.trans (hb.mono hz2))
  replace HOv1 := Lib.hid (HOv1.out.later hb)
  replace HOv2 := Lib.hid (HOv2.out.later hb)
  clear hb
  go_wp2_with fail
  refine (kit.markIntS_any _ (1) v2 T1 wx3 (by omega) (by omega) (by omega) HOv2.out).mono ?_
  rintro e wx4 ⟨rfl, ho, hg⟩
  have hb := kit.marked_below (B := w.heap.size) hg (by omega) (fun g h => by have := (HUv2.out g h).1; omega)
  have hz4 : w.heap.size ≤ wx4.heap.size := Nat.le_trans hz3 hb.size
  have hy4 : wx3.heap.size ≤ wx4.heap.size := hb.size
  replace HB := Lib.hid (HB.out.trans hb)
  replace HOv1 := Lib.hid (HOv1.out.marked hg (fun g h1 h2 => by have h3 := HUv2.out g h1; have h4 := HUv1.out g h2; omega))
  replace HOv2 := Lib.hid ho
  clear hb hg ho
  go_wp2_with fail
  refine (kit.heldIntS_any _ (1) T1.length v2 wx4 (by omega) (by omega) (by omega) HOv2.out).mono ?_
  rintro e w' ⟨rfl, rfl⟩
  go_wp2_with fail
  refine (kit.implParseServers a0 wx4 (by omega)).mono ?_
  rintro e wx5 ⟨v5, he, ho, hb⟩
  rw [HT1.out] at ho
  rw [HT2.out] at he
  subst he
  have hz5 : w.heap.size ≤ wx5.heap.size := Nat.le_trans hz4 hb.size
  have hy5 : wx4.heap.size ≤ wx5.heap.size := hb.size
  replace HB := Lib.hid (HB.out.trans (hb.mono hz4))
  replace HOv1 := Lib.hid (HOv1.out.later hb)
  replace HOv2 := Lib.hid (HOv2.out.later hb)
  have HOv5 := Lib.hid ho
  have HUv5 := Lib.hid ho.block
  clear ho
  clear hb
  go_wp2_with fail
  refine (kit.eqIntS _ v5 (T1) _ v1 (T1) wx5 (by omega) HOv5.out (by omega) HOv1.out).mono ?_
  rintro e wx6 ⟨he, hb⟩
  rw [decide_eq_true rfl] at he
  subst he
  have hz6 : w.heap.size ≤ wx6.heap.size := Nat.le_trans hz5 hb.size
  have hy6 : wx5.heap.size ≤ wx6.heap.size := hb.size
  replace HB := Lib.hid (HB.out.trans (hb.mono hz5))
  replace HOv1 := Lib.hid (HOv1.out.later hb)
  replace HOv2 := Lib.hid (HOv2.out.later hb)
  replace HOv5 := Lib.hid (HOv5.out.later hb)
  clear hb
  go_wp2_with fail
  refine (kit.heldIntS_any _ (1) T1.length v2 wx6 (by omega) (by omega) (by omega) HOv2.out).mono ?_
  rintro e w' ⟨rfl, rfl⟩
  go_wp2_with fail
  go_ret
  exact ⟨rfl, HB.out⟩
set_option maxRecDepth 100000 in
theorem lifted (os : Os) (started : os.Started) (H : Type) (enc : TypeId × Value → H) :
    ReturnsInHanded {} Try.checked os 7 .any (Rows.fnExactParseServersSpec.pre6 enc Try.prog Try.f7 Rows.fnExactParseServersRow.domain false) (Rows.fnExactParseServersSpec.post enc Try.prog Try.f7 false true false false) := by
  refine returnsInHanded_of_change (C := Try.checked) kit.own started (by kernel_rfl) Try.func7
    (ChangeSpec.witness6 (enc := enc) (C := Try.checked) false ⟨#[], #[.string ByteArray.empty], []⟩ 8 (by kernel_rfl) (by kernel_rfl) (by kernel_rfl) (by kernel_rfl)) ?_
  intro W base args ds gs before hval0 hW hcnd _
  have hval : ∀ (j : Nat) t v, Try.f7.params[j]? = some t → args[j]? = some v → Value.okWide Try.prog W .any base t v := hval0
  have hW' := hW
  obtain ⟨p, q, hA0, hV, rfl, hfz, hnd⟩ := hW
  have hA : DataW.TrodAll enc Try.prog W 0 (fun _ => true) true Try.f7.params.toList args.toList ds p := hA0
  rw [Try.params7] at hA hval
  obtain ⟨v0, vs0, d0, ds0, p0, q0, hargs, rfl, rfl, h0, r0⟩ := trodAll_cons hA
  obtain ⟨rfl, rfl, rfl⟩ := trodAll_nil r0
  obtain rfl : args = #[v0] := by cases args; simp_all
  obtain ⟨rfl, rfl⟩ := trodVars_none hV
  obtain ⟨a0, rfl, rfl, rfl, w0⟩ := open_string Try.underlying9 (hval 0 9 v0 rfl rfl) h0
  clear hA0 hval0
  refine (walk a0 W w0).mono fun e W' ⟨he, bel⟩ => ?_
  subst he
  exact ⟨_, rfl, _, _, _, [], _, [], hW', trodAll_mk1 (shut_bool Try.underlying4 _), (trodAll_cons_mk (shut_string Try.underlying9 w0) trodAll_mk0), rfl, bel.frame _, fun h => by cases h⟩

theorem proved : Rows.FnExactParseServersSaid :=
  OpenClaim.holds_of_wide 7 Try.f7 rfl rfl rfl rfl rfl rfl rfl ⟨rfl, rfl, rfl, rfl, rfl⟩ rfl rfl rfl rfl rfl (by kernel_rfl) Try.func7 (by kernel_rfl)
    (of_decide_eq_true (by kernel_rfl)) (by unfold Func.isWrapper; first | (rw [if_pos (by decide +kernel)]; kernel_rfl) | (rw [if_neg (by decide +kernel)]; exact ⟨rfl, rfl⟩))
    (fun os started H enc _ => lifted os started H enc)
end Go.Proofs.Ytmojigimlhjphaa.fnExactParseServers
