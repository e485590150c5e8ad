/-
  For every list of at most 2^20 ints (the law passes over longer ones), impl's FormatServers returns the same string as the specification's and leaves its argument as it was: the law returns true and changes nothing that was there. No other condition.
-/
import Derived.Test.YtmojigimlhjphaaS2Fmt
namespace Go.Proofs.Ytmojigimlhjphaa.fnExactFormatServers
open Go.ChangeShapes Go.WideShapes Go.ChangeAt Go.RowKit
open Go.ChangeMaps (open_string shut_string)
set_option linter.unusedVariables false

set_option maxRecDepth 100000 in
set_option maxHeartbeats 8000000 in
theorem walk (a0 : Option Addr) (len0 cap0 : Nat) (z0 : List Int) (w : World) (w0 : kit.IsRow .i64 w a0 len0 cap0 z0) :
    Calls Try.prog 6 #[.slice a0 len0 cap0] w fun e w' => e = .returned (.bool true) ∧ Below w.heap.size w w' := by
  obtain ⟨L0, rfl, hat0⟩ := kit.IsRow.list w0
  have HA0 := Lib.hid hat0
  clear w0 hat0
  by_cases hbig0 : L0.length > 1048576
  · go_enter Try.func6, Try.ntmps6
    go_wp2_with fail
    go_ret
    exact ⟨rfl, Below.refl _ _⟩
  have HB := Lib.hid (Below.refl w.heap.size w)
  have hz0 : w.heap.size ≤ w.heap.size := Nat.le_refl _
  go_enter Try.func6, Try.ntmps6
  go_wp2_with fail
  refine (kit.toIntS_any a0 cap0 L0 w (by omega) (HA0.out.later HB.out)).mono ?_
  rintro e wx1 ⟨v1, rfl, ho, hb⟩
  have hz1 : w.heap.size ≤ wx1.heap.size := Nat.le_trans hz0 hb.size
  have hy1 : w.heap.size ≤ wx1.heap.size := hb.size
  replace HB := Lib.hid (HB.out.trans (hb.mono hz0))
  have HOv1 := Lib.hid ho
  have HUv1 := Lib.hid ho.block
  clear ho
  clear hb
  go_wp2_with fail
  refine (kit.specFormatServers _ v1 L0 wx1 (by omega) HOv1.out).mono ?_
  rintro e wx2 ⟨he, hb⟩
  unfold kit.str at he
  generalize hT1 : (⟨(kit.fmtS L0).toArray⟩ : ByteArray) = T1 at he
  have HT1 := Lib.hid hT1
  clear hT1
  subst he
  have hz2 : w.heap.size ≤ wx2.heap.size := Nat.le_trans hz1 hb.size
  have hy2 : wx1.heap.size ≤ wx2.heap.size := hb.size
  replace HB := Lib.hid (HB.out.trans (hb.mono hz1))
  replace HOv1 := Lib.hid (HOv1.out.later hb)
  clear hb
  go_wp2_with fail
  refine (kit.toIntS_any a0 cap0 L0 wx2 (by omega) (HA0.out.later HB.out)).mono ?_
  rintro e wx3 ⟨v3, rfl, ho, hb⟩
  have hz3 : w.heap.size ≤ wx3.heap.size := Nat.le_trans hz2 hb.size
  have hy3 : wx2.heap.size ≤ wx3.heap.size := hb.size
  replace HB := Lib.hid (HB.out.trans (hb.mono hz2))
  replace HOv1 := Lib.hid (HOv1.out.later hb)
  have HOv3 := Lib.hid ho
  have HUv3 := Lib.hid ho.block
  clear ho
  clear hb
  go_wp2_with fail
  refine (kit.implFormatServers _ v3 L0 wx3 (by omega) HOv3.out).mono ?_
  rintro e wx4 ⟨he, hb⟩
  unfold kit.str at he
  rw [HT1.out] at he
  subst he
  have hz4 : w.heap.size ≤ wx4.heap.size := Nat.le_trans hz3 hb.size
  have hy4 : wx3.heap.size ≤ wx4.heap.size := hb.size
  replace HB := Lib.hid (HB.out.trans (hb.mono hz3))
  replace HOv1 := Lib.hid (HOv1.out.later hb)
  replace HOv3 := Lib.hid (HOv3.out.later hb)
  clear hb
  go_wp2_with fail
  refine (kit.toIntS_any a0 cap0 L0 wx4 (by omega) (HA0.out.later HB.out)).mono ?_
  rintro e wx5 ⟨v5, rfl, ho, hb⟩
  have hz5 : w.heap.size ≤ wx5.heap.size := Nat.le_trans hz4 hb.size
  have hy5 : wx4.heap.size ≤ wx5.heap.size := hb.size
  replace HB := Lib.hid (HB.out.trans (hb.mono hz4))
  replace HOv1 := Lib.hid (HOv1.out.later hb)
  replace HOv3 := Lib.hid (HOv3.out.later hb)
  have HOv5 := Lib.hid ho
  have HUv5 := Lib.hid ho.block
  clear ho
  clear hb
  go_wp2_with fail
  refine (kit.eqIntS _ v3 (L0) _ v5 (L0) wx5 (by omega) HOv3.out (by omega) HOv5.out).mono ?_
  rintro e wx6 ⟨he, hb⟩
  rw [decide_eq_true rfl] at he
  subst he
  have hz6 : w.heap.size ≤ wx6.heap.size := Nat.le_trans hz5 hb.size
  have hy6 : wx5.heap.size ≤ wx6.heap.size := hb.size
  replace HB := Lib.hid (HB.out.trans (hb.mono hz5))
  replace HOv1 := Lib.hid (HOv1.out.later hb)
  replace HOv3 := Lib.hid (HOv3.out.later hb)
  replace HOv5 := Lib.hid (HOv5.out.later hb)
  clear hb
  go_wp2_with fail
  go_ret
  exact ⟨rfl, HB.out⟩
set_option maxRecDepth 100000 in
theorem lifted (os : Os) (started : os.Started) (H : Type) (enc : TypeId × Value → H) :
    ReturnsInHanded {} Try.checked os 6 .any (Rows.fnExactFormatServersSpec.pre6 enc Try.prog Try.f6 Rows.fnExactFormatServersRow.domain false) (Rows.fnExactFormatServersSpec.post enc Try.prog Try.f6 false true false false) := by
  refine returnsInHanded_of_change (C := Try.checked) kit.own started (by kernel_rfl) Try.func6
    (ChangeSpec.witness6 (enc := enc) (C := Try.checked) false ⟨#[], #[.slice none 0 0], []⟩ 8 (by kernel_rfl) (by kernel_rfl) (by kernel_rfl) (by kernel_rfl)) ?_
  intro W base args ds gs before hval0 hW hcnd _
  have hval : ∀ (j : Nat) t v, Try.f6.params[j]? = some t → args[j]? = some v → Value.okWide Try.prog W .any base t v := hval0
  have hW' := hW
  obtain ⟨p, q, hA0, hV, rfl, hfz, hnd⟩ := hW
  have hA : DataW.TrodAll enc Try.prog W 0 (fun _ => true) true Try.f6.params.toList args.toList ds p := hA0
  rw [Try.params6] at hA hval
  obtain ⟨v0, vs0, d0, ds0, p0, q0, hargs, rfl, rfl, h0, r0⟩ := trodAll_cons hA
  obtain ⟨rfl, rfl, rfl⟩ := trodAll_nil r0
  obtain rfl : args = #[v0] := by cases args; simp_all
  obtain ⟨rfl, rfl⟩ := trodVars_none hV
  obtain ⟨a0, len0, cap0, rfl⟩ := okWide_slice Try.underlying24 (hval 0 24 v0 rfl rfl)
  have k0 := h0
  have lt0 : ∀ x ∈ p0, x.block < W.heap.size := by obtain ⟨m, hm⟩ := k0; exact DataW.trod_lt m _ _ _ hm
  obtain ⟨z0, w0⟩ : ∃ zs, kit.IsRow .i64 W a0 len0 cap0 zs := by
    obtain ⟨fuel, hf⟩ := h0
    rcases open_ints Try.underlying24 Try.underlying3 (by kernel_rfl) hf with ⟨hcs, _⟩ | ⟨x, l, c, zs, hcs, _, hl, hm, hz, _, hcell, hwz⟩
    · simp [Value.cells] at hcs
      obtain ⟨rfl, rfl, rfl⟩ := hcs
      exact ⟨[], .inl ⟨rfl, rfl, rfl, rfl⟩⟩
    · simp [Value.cells] at hcs
      obtain ⟨rfl, rfl, rfl⟩ := hcs
      exact ⟨zs, .inr ⟨_, rfl, hl, hm, by simpa using hz, hcell, hwz⟩⟩
  clear hA0 hval0
  refine (walk a0 len0 cap0 z0 W w0).mono fun e W' ⟨he, bel⟩ => ?_
  subst he
  exact ⟨_, rfl, _, _, _, [], _, [], hW', trodAll_mk1 (shut_bool Try.underlying4 _), (trodAll_cons_mk (Below.trod kit.laidOut (by kernel_rfl) (of_decide_eq_true (by kernel_rfl)) k0 bel lt0) trodAll_mk0), rfl, bel.frame _, fun h => by cases h⟩

theorem proved : Rows.FnExactFormatServersSaid :=
  OpenClaim.holds_of_wide 6 Try.f6 rfl rfl rfl rfl rfl rfl rfl ⟨rfl, rfl, rfl, rfl, rfl⟩ rfl rfl rfl rfl rfl (by kernel_rfl) Try.func6 (by kernel_rfl)
    (of_decide_eq_true (by kernel_rfl)) (by unfold Func.isWrapper; first | (rw [if_pos (by decide +kernel)]; kernel_rfl) | (rw [if_neg (by decide +kernel)]; exact ⟨rfl, rfl⟩))
    (fun os started H enc _ => lifted os started H enc)
end Go.Proofs.Ytmojigimlhjphaa.fnExactFormatServers
