/-
  For every list of ints, impl's AreServers returns the same bool as the specification's and leaves its argument as it was: the law returns true and changes nothing that was there. No condition.
-/
import Derived.Test.YtmdipncfmmdbkaaS2Plain
namespace Go.Proofs.Ytmdipncfmmdbkaa.fnExactAreServers
open Go.ChangeShapes Go.WideShapes Go.ChangeAt Go.RowKit
open Go.ChangeMaps (open_string shut_string)
set_option linter.unusedVariables false

set_option maxRecDepth 100000 in
theorem walk (a0 : Option Addr) (len0 cap0 : Nat) (z0 : List Int) (w : World) (w0 : kit.IsRow .i64 w a0 len0 cap0 z0) :
    Calls Try.prog 4 #[.slice a0 len0 cap0] w fun e w' => e = .returned (.bool true) ∧ Below w.heap.size w w' := by
  obtain ⟨L, rfl, hat⟩ := kit.IsRow.list w0
  clear w0
  have HA := Lib.hid hat
  clear hat
  by_cases hbig : L.length > 1048576
  · go_enter Try.func4, Try.ntmps4
    go_wp2_with fail
    go_ret
    exact ⟨rfl, Below.refl _ _⟩
  · go_enter Try.func4, Try.ntmps4
    go_wp2_with fail
    refine (kit.toIntS_any a0 cap0 L w (by omega) HA.out).mono ?_
    rintro e w1 ⟨v1, rfl, ho1, hb1⟩
    have HA1 := Lib.hid (HA.out.later hb1)
    obtain ⟨p1, c1, rfl, _, _, at1, _⟩ := ho1.form
    have HT1 := Lib.hid at1
    clear at1 ho1
    go_wp2_with fail
    refine (kit.specAre_any p1 c1 L w1 (by omega) HT1.out).mono ?_
    rintro e w2 ⟨rfl, hd2⟩
    have hb2 := hd2.below w1.heap.size
    have HA2 := Lib.hid (HA1.out.later hb2)
    go_wp2_with fail
    refine (kit.toIntS_any a0 cap0 L w2 (by omega) HA2.out).mono ?_
    rintro e w3 ⟨v3, rfl, ho3, hb3⟩
    have HA3 := Lib.hid (HA2.out.later hb3)
    obtain ⟨p3, c3, rfl, _, _, at3, _⟩ := ho3.form
    have HT3 := Lib.hid at3
    clear at3 ho3
    go_wp2_with fail
    refine (kit.implAre_any p3 c3 L w3 (by omega) HT3.out).mono ?_
    rintro e w4 ⟨rfl, hb4⟩
    have HA4 := Lib.hid (HA3.out.later hb4)
    have HT4 := Lib.hid (HT3.out.later hb4)
    go_wp2_with fail
    refine (kit.toIntS_any a0 cap0 L w4 (by omega) HA4.out).mono ?_
    rintro e w5 ⟨v5, rfl, ho5, hb5⟩
    have HT5 := Lib.hid (HT4.out.later hb5)
    obtain ⟨p5, c5, rfl, _, _, at5, _⟩ := ho5.form
    have HT6 := Lib.hid at5
    clear at5 ho5
    go_wp2_with fail
    refine (kit.eqIntS_any p3 p5 c3 c5 L L w5 (by omega) (by omega) HT5.out HT6.out).mono ?_
    rintro e w6 ⟨he, hd6⟩
    rw [decide_eq_true rfl] at he
    subst he
    go_wp2_with fail
    go_ret
    exact ⟨rfl, ((((hb1.trans (hb2.mono hb1.size)).trans (hb3.mono (by have := hb1.size; have := hb2.size; omega))).trans (hb4.mono (by have := hb1.size; have := hb2.size; have := hb3.size; omega))).trans (hb5.mono (by have := hb1.size; have := hb2.size; have := hb3.size; have := hb4.size; omega))).trans (hd6.below _)⟩

set_option maxRecDepth 100000 in
theorem lifted (os : Os) (started : os.Started) (H : Type) (enc : TypeId × Value → H) :
    ReturnsInHanded {} Try.checked os 4 .any (Rows.fnExactAreServersSpec.pre6 enc Try.prog Try.f4 Rows.fnExactAreServersRow.domain false) (Rows.fnExactAreServersSpec.post enc Try.prog Try.f4 false true false false) := by
  refine returnsInHanded_of_change (C := Try.checked) kit.own started (by kernel_rfl) Try.func4
    (ChangeSpec.witness6 (enc := enc) (C := Try.checked) false ⟨#[], #[.slice none 0 0], []⟩ 8 (by kernel_rfl) (by kernel_rfl) (by kernel_rfl) (by kernel_rfl)) ?_
  intro W base args ds gs before hval0 hW hcnd _
  have hval : ∀ (j : Nat) t v, Try.f4.params[j]? = some t → args[j]? = some v → Value.okWide Try.prog W .any base t v := hval0
  have hW' := hW
  obtain ⟨p, q, hA0, hV, rfl, hfz, hnd⟩ := hW
  have hA : DataW.TrodAll enc Try.prog W 0 (fun _ => true) true Try.f4.params.toList args.toList ds p := hA0
  rw [Try.params4] at hA hval
  obtain ⟨v0, vs0, d0, ds0, p0, q0, hargs, rfl, rfl, h0, r0⟩ := trodAll_cons hA
  obtain ⟨rfl, rfl, rfl⟩ := trodAll_nil r0
  obtain rfl : args = #[v0] := by cases args; simp_all
  obtain ⟨rfl, rfl⟩ := trodVars_none hV
  obtain ⟨a0, len0, cap0, rfl⟩ := okWide_slice Try.underlying24 (hval 0 24 v0 rfl rfl)
  have k0 := h0
  have lt0 : ∀ x ∈ p0, x.block < W.heap.size := by obtain ⟨m, hm⟩ := k0; exact DataW.trod_lt m _ _ _ hm
  obtain ⟨z0, w0⟩ : ∃ zs, kit.IsRow .i64 W a0 len0 cap0 zs := by
    obtain ⟨fuel, hf⟩ := h0
    rcases open_ints Try.underlying24 Try.underlying3 (by kernel_rfl) hf with ⟨hcs, _⟩ | ⟨x, l, c, zs, hcs, _, hl, hm, hz, _, hcell, hwz⟩
    · simp [Value.cells] at hcs
      obtain ⟨rfl, rfl, rfl⟩ := hcs
      exact ⟨[], .inl ⟨rfl, rfl, rfl, rfl⟩⟩
    · simp [Value.cells] at hcs
      obtain ⟨rfl, rfl, rfl⟩ := hcs
      exact ⟨zs, .inr ⟨_, rfl, hl, hm, by simpa using hz, hcell, hwz⟩⟩
  clear hA0 hval0
  refine (walk a0 len0 cap0 z0 W w0).mono fun e W' ⟨he, bel⟩ => ?_
  subst he
  exact ⟨_, rfl, _, _, _, [], _, [], hW', trodAll_mk1 (shut_bool Try.underlying4 _), (trodAll_cons_mk (Below.trod kit.laidOut (by kernel_rfl) (of_decide_eq_true (by kernel_rfl)) k0 bel lt0) trodAll_mk0), rfl, bel.frame _, fun h => by cases h⟩

theorem proved : Rows.FnExactAreServersSaid :=
  OpenClaim.holds_of_wide 4 Try.f4 rfl rfl rfl rfl rfl rfl rfl ⟨rfl, rfl, rfl, rfl, rfl⟩ rfl rfl rfl rfl rfl (by kernel_rfl) Try.func4 (by kernel_rfl)
    (of_decide_eq_true (by kernel_rfl)) (by unfold Func.isWrapper; first | (rw [if_pos (by decide +kernel)]; kernel_rfl) | (rw [if_neg (by decide +kernel)]; exact ⟨rfl, rfl⟩))
    (fun os started H enc _ => lifted os started H enc)
end Go.Proofs.Ytmdipncfmmdbkaa.fnExactAreServers
