/-
  Chapter 2, the program's sets: union, intersection, difference, as the lists that the specification gives.
-/
import Derived.Test.YtmojigimlhjphaaC2With
namespace Go.Proofs.Ytmojigimlhjphaa.kit
open Go.ChangeShapes Go.WideShapes Go.ChangeAt Go.RowKit
set_option linter.unusedVariables false
set_option linter.unusedSimpArgs false

set_option maxRecDepth 100000 in
theorem implUniteServers (b1 : Nat) (v1 : Value) (l1 : List Int) (b2 : Nat) (v2 : Value) (l2 : List Int) (w : World) (h1 : l1.length ≤ 1048576) (o1 : OwnI b1 w v1 l1) (h2 : l2.length ≤ 1048576) (o2 : OwnI b2 w v2 l2) :
    Calls Try.prog 13 #[v1, v2] w fun e w' => ∃ v, e = .returned v ∧ OwnI w.heap.size w' v (unite l1 l2) ∧ Below w.heap.size w w' := by
  have hb : Below w.heap.size w (w.alloc (.cells #[.bool true, .bool false, .bool false, .bool true, .bool true, .bool true] 53)) := (Below.refl _ _).alloc (Nat.le_refl _) _
  have C1 := Lib.hid (implWith b1 v1 l1 b2 v2 l2 w.heap.size [(true, false), (false, true), (true, true)] (w.alloc (.cells #[.bool true, .bool false, .bool false, .bool true, .bool true, .bool true] 53)) h1 (o1.later hb) h2 (o2.later hb) (by simp) (by simp)
    (by
      intro j hj
      have hj' : j < 3 := hj
      have hc : ∀ i, (w.alloc (.cells #[.bool true, .bool false, .bool false, .bool true, .bool true, .bool true] 53)).cell? ⟨w.heap.size, i, none⟩ = (#[.bool true, .bool false, .bool false, .bool true, .bool true, .bool true] : Array Value)[i]? := fun i => by unfold World.cell?; rw [heap_alloc_new]; rfl
      rw [hc, hc]
      rcases (by omega : j = 0 ∨ j = 1 ∨ j = 2) with rfl | rfl | rfl <;> exact ⟨rfl, rfl⟩))
  have HB := Lib.hid hb
  have HE := Lib.hid (unite_eq l1 l2 (fun x y => [(true, false), (false, true), (true, true)].contains (x, y)) (by decide))
  clear o1 o2 hb
  go_enter Try.func13, Try.ntmps13
  go_wp2_with fail
  refine (C1.out).mono ?_
  rintro e w1 ⟨v, rfl, ho, hb1⟩
  have HO := Lib.hid (ho.mono HB.out.size)
  have HB1 := Lib.hid (HB.out.trans (hb1.mono HB.out.size))
  rw [HE.out] at HO
  clear ho hb1
  go_wp2_with fail
  go_ret
  exact ⟨_, rfl, HO.out, HB1.out⟩
set_option maxRecDepth 100000 in
theorem implCommonServers (b1 : Nat) (v1 : Value) (l1 : List Int) (b2 : Nat) (v2 : Value) (l2 : List Int) (w : World) (h1 : l1.length ≤ 1048576) (o1 : OwnI b1 w v1 l1) (h2 : l2.length ≤ 1048576) (o2 : OwnI b2 w v2 l2) :
    Calls Try.prog 14 #[v1, v2] w fun e w' => ∃ v, e = .returned v ∧ OwnI w.heap.size w' v (common l1 l2) ∧ Below w.heap.size w w' := by
  have hb : Below w.heap.size w (w.alloc (.cells #[.bool true, .bool true] 53)) := (Below.refl _ _).alloc (Nat.le_refl _) _
  have C1 := Lib.hid (implWith b1 v1 l1 b2 v2 l2 w.heap.size [(true, true)] (w.alloc (.cells #[.bool true, .bool true] 53)) h1 (o1.later hb) h2 (o2.later hb) (by simp) (by simp)
    (by
      intro j hj
      have hj' : j < 1 := hj
      have hc : ∀ i, (w.alloc (.cells #[.bool true, .bool true] 53)).cell? ⟨w.heap.size, i, none⟩ = (#[.bool true, .bool true] : Array Value)[i]? := fun i => by unfold World.cell?; rw [heap_alloc_new]; rfl
      rw [hc, hc]
      obtain rfl : j = 0 := by omega
      exact ⟨rfl, rfl⟩))
  have HB := Lib.hid hb
  have HE := Lib.hid (common_eq l1 l2 (fun x y => [(true, true)].contains (x, y)) (by decide))
  clear o1 o2 hb
  go_enter Try.func14, Try.ntmps14
  go_wp2_with fail
  refine (C1.out).mono ?_
  rintro e w1 ⟨v, rfl, ho, hb1⟩
  have HO := Lib.hid (ho.mono HB.out.size)
  have HB1 := Lib.hid (HB.out.trans (hb1.mono HB.out.size))
  rw [HE.out] at HO
  clear ho hb1
  go_wp2_with fail
  go_ret
  exact ⟨_, rfl, HO.out, HB1.out⟩
set_option maxRecDepth 100000 in
theorem implWithoutServers (b1 : Nat) (v1 : Value) (l1 : List Int) (b2 : Nat) (v2 : Value) (l2 : List Int) (w : World) (h1 : l1.length ≤ 1048576) (o1 : OwnI b1 w v1 l1) (h2 : l2.length ≤ 1048576) (o2 : OwnI b2 w v2 l2) :
    Calls Try.prog 15 #[v1, v2] w fun e w' => ∃ v, e = .returned v ∧ OwnI w.heap.size w' v (without l1 l2) ∧ Below w.heap.size w w' := by
  have hb : Below w.heap.size w (w.alloc (.cells #[.bool true, .bool false] 53)) := (Below.refl _ _).alloc (Nat.le_refl _) _
  have C1 := Lib.hid (implWith b1 v1 l1 b2 v2 l2 w.heap.size [(true, false)] (w.alloc (.cells #[.bool true, .bool false] 53)) h1 (o1.later hb) h2 (o2.later hb) (by simp) (by simp)
    (by
      intro j hj
      have hj' : j < 1 := hj
      have hc : ∀ i, (w.alloc (.cells #[.bool true, .bool false] 53)).cell? ⟨w.heap.size, i, none⟩ = (#[.bool true, .bool false] : Array Value)[i]? := fun i => by unfold World.cell?; rw [heap_alloc_new]; rfl
      rw [hc, hc]
      obtain rfl : j = 0 := by omega
      exact ⟨rfl, rfl⟩))
  have HB := Lib.hid hb
  have HE := Lib.hid (without_eq l1 l2 (fun x y => [(true, false)].contains (x, y)) (by decide))
  clear o1 o2 hb
  go_enter Try.func15, Try.ntmps15
  go_wp2_with fail
  refine (C1.out).mono ?_
  rintro e w1 ⟨v, rfl, ho, hb1⟩
  have HO := Lib.hid (ho.mono HB.out.size)
  have HB1 := Lib.hid (HB.out.trans (hb1.mono HB.out.size))
  rw [HE.out] at HO
  clear ho hb1
  go_wp2_with fail
  go_ret
  exact ⟨_, rfl, HO.out, HB1.out⟩
end Go.Proofs.Ytmojigimlhjphaa.kit
