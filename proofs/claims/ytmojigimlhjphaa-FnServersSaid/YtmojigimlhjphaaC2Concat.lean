/-
  The library's slices.Concat at two slices of ints: grown from nil, appended twice.
-/
import Derived.Test.YtmojigimlhjphaaInts
import Derived.Lib.AppendZeros
namespace Go.Proofs.Ytmojigimlhjphaa.kit
open Go.ChangeShapes Go.WideShapes Go.ChangeAt Go.RowKit
set_option linter.unusedVariables false
set_option linter.unusedSimpArgs false

theorem zeros_int (n : Nat) : (Builtin.zeroCells (Value.int .i64 0).cells n).size = n := by
  simp [Builtin.zeroCells, Value.cells]
set_option maxRecDepth 100000 in
theorem grow0 (x : Int) (w : World) (hx0 : 0 ≤ x) (hx : x ≤ 1000000000000) :
    Calls Try.prog 78 #[.slice none 0 0, .int .i64 x] w fun e w' => ∃ v, e = .returned v ∧ OwnI w.heap.size w' v [] ∧ Below w.heap.size w w' := by
  obtain ⟨n, rfl⟩ := Int.eq_ofNat_of_zero_le hx0
  by_cases h0 : 0 < n
  · obtain ⟨i0, hi, hz0, hz1, hz2⟩ := info_parts infoI
    have hw : IntKind.i64.wrap (n : Int) = n := IntWalk.i64_in _ (by omega)
    have hw0 : IntKind.i64.wrap ((n : Int) - 0) = n := by rw [Int.sub_zero, hw]
    have HR := Lib.hid (Lib.run_append_nil_zeros (P := Try.prog) w 24 3 24 3 i0 (.int .i64 0) .i64 .i64 Try.underlying24 Try.underlying3 hi hz0 n h0 (by omega) (by omega) (by rw [hz2]; omega))
    have HC := Lib.hid (show n ≤ grownCap w n 0 3 ∧ grownCap w n 0 3 ≤ maxLen from ⟨grownCap_ge w n 0 3, grownCap_le_maxLen w n 0 3 (by unfold maxLen; omega)⟩)
    generalize grownCap w n 0 3 = cp at *
    obtain ⟨hc1, hc2⟩ := HC.out
    go_enter Try.func78, Try.ntmps78
    go_wp2_with (at_builtin; refine Lib.wpList_append_run _ rfl _ _ _ _ rfl _ _ rfl rfl _ _ HR.out ?_)
    go_ret
    refine ⟨_, rfl, ?_, ((Below.refl _ _).alloc (Nat.le_refl _) _).drew⟩
    refine ⟨rfl, .inr ⟨w.heap.size, cp, _, rfl, Nat.le_refl _, heap_alloc_new w _, Nat.zero_le _, hc2, ?_, rfl⟩⟩
    simp [Builtin.zeroCells]; omega
  · obtain rfl : n = 0 := by omega
    go_enter Try.func78, Try.ntmps78
    go_wp2_with fail
    go_ret
    exact ⟨_, rfl, World.ownsRow_nil _ _ _ _, Below.refl _ _⟩
set_option maxRecDepth 100000 in
theorem concat2 (g : Nat) (a1 a2 : Option Addr) (c1 c2 : Nat) (l1 l2 : List Int) (w : World) (h1 : l1.length ≤ 4194304) (h2 : l2.length ≤ 4194304)
    (hg1 : w.cell? ⟨g, 0, none⟩ = some (.slice a1 l1.length c1)) (hg2 : w.cell? ⟨g, 1, none⟩ = some (.slice a2 l2.length c2)) (hg : g < w.heap.size)
    (s1 : SrcI w.heap.size w (.slice a1 l1.length c1) l1) (s2 : SrcI w.heap.size w (.slice a2 l2.length c2) l2) :
    Calls Try.prog 65 #[.slice (some ⟨g, 0, none⟩) 2 2] w fun e w' => ∃ v, e = .returned v ∧ OwnI w.heap.size w' v (l1 ++ l2) ∧ Below w.heap.size w w' := by
  have hw1 : IntKind.i64.wrap (l1.length : Int) = l1.length := IntWalk.i64_in _ (by omega)
  have hw2 : IntKind.i64.wrap ((l1.length : Int) + (l2.length : Int)) = ((l1.length + l2.length : Nat) : Int) := by rw [IntWalk.i64_in _ (by omega)]; omega
  have hp1 : ((l1.length : Int) < 0) = False := by simp
  go_enter Try.func65, Try.ntmps65
  go_wp2_with fail
  refine wp_loop_rounds 3 ?_
  rw [rounds_succ]
  go_wp2_with fail
  rw [rounds_succ]
  go_wp2_with fail
  rw [rounds_succ]
  go_wp2_with (go_at_call 78; refine (grow0 _ w (by omega) (by omega)).mono ?_; rintro e w1 ⟨v1, rfl, ho1, hb1⟩)
  have hg1' : w1.cell? ⟨g, 0, none⟩ = some (.slice a1 l1.length c1) := (hb1.cell hg).trans hg1
  have hg2' : w1.cell? ⟨g, 1, none⟩ = some (.slice a2 l2.length c2) := (hb1.cell hg).trans hg2
  have hz1 := hb1.size
  refine wp_loop_rounds 3 ?_
  rw [rounds_succ]
  go_wp2_with (at_builtin; refine wpList_appI rfl (.tmp 31) (.tmp 32) rfl w.heap.size _ [] rfl ho1 w.heap.size _ l1 rfl (s1.below hb1 (Nat.le_refl _)) (by simp; omega) (by omega) ?_; intro v2 w2 ho2 hb2 hg2)
  have hg2' : w2.cell? ⟨g, 1, none⟩ = some (.slice a2 l2.length c2) := (hb2.cell hg).trans hg2'
  have hz2 := hb2.size
  have HB2 := hb1.trans hb2
  rw [rounds_succ]
  go_wp2_with (at_builtin; refine wpList_appI rfl (.tmp 31) (.tmp 32) rfl w.heap.size _ ([] ++ l1) rfl ho2 w.heap.size _ l2 rfl (s2.below HB2 (Nat.le_refl _)) (by simp; omega) (by omega) ?_; intro v3 w3 ho3 hb3 hg3)
  have HB3 := HB2.trans hb3
  rw [rounds_succ]
  go_wp2_with fail
  go_ret
  exact ⟨_, rfl, by simpa using ho3, HB3⟩
end Go.Proofs.Ytmojigimlhjphaa.kit
