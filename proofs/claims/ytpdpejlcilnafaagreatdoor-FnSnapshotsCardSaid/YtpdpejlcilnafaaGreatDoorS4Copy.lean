/-
  Chapter 4: machines copied: slices.Clone, impl's copyMachine, spec's l4Copy.
-/
import Derived.Test.YtpdpejlcilnafaaGreatDoorS4Rows
import Derived.Test.YtpdpejlcilnafaaGreatDoorKept
import Derived.Deep.RegionWith
import Derived.Deep.RegionHeld3
import Derived.Lib.SliceRun
namespace Go.Proofs.YtpdpejlcilnafaaGreatDoor.kit
open Go.ChangeShapes Go.WideShapes Go.ChangeAt Go.RowKit
set_option linter.unusedVariables false

set_option maxRecDepth 100000 in
set_option maxHeartbeats 2000000 in
theorem cloneIs (v : Value) (l : List Int) (w : World) (hl : l.length ≤ 4194304) (hs : SrcI w.heap.size w v l) :
    Calls Tryz.prog 124 #[v] w fun e w' => ∃ v', e = .returned v' ∧ OwnI w.heap.size w' v' l ∧ Below w.heap.size w w' := by
  have hs' := hs
  rcases hs with ⟨rfl, rfl⟩ | ⟨x, c, rfl, hlt, hc⟩
  · clear hs'
    have hq := fun (W : World) => Lib.run_eql_slice_nil W 27 _ none 0 0 0 0 Tryz.underlying27
    go_enter Tryz.func124, Tryz.ntmps124
    go_wp2_with fail
    go_ret
    exact ⟨_, rfl, World.ownsRow_nil _ _ _ _, Below.refl _ _⟩
  · have HS := Lib.hid (hs'.below ((Below.refl w.heap.size w).alloc (Nat.le_refl _) (.cells #[] 3)) (Nat.le_refl _))
    have HN := Lib.hid (ownI_new w w.heap.size (Nat.le_refl _))
    clear hs' hc
    have hq := fun (W : World) => Lib.run_eql_slice_nil W 27 _ (some x) l.length c 0 0 Tryz.underlying27
    go_enter Tryz.func124, Tryz.ntmps124
    go_wp2_with (at_builtin; refine wpList_appI rfl _ _ rfl w.heap.size _ [] rfl HN.out w.heap.size _ l rfl HS.out (by simp; omega) (by simp) ?_; intro v' w1 hown' hb1 hg1)
    obtain ⟨y, q, rfl⟩ := hown'.shape
    go_wp2_with fail
    go_ret
    exact ⟨_, rfl, by simpa using hown', ((Below.refl w.heap.size w).alloc (Nat.le_refl _) _).trans hb1⟩
theorem cloneI (b : Nat) (v : Value) (l : List Int) (w : World) (hl : l.length ≤ 4194304) (o : OwnI b w v l) :
    Calls Tryz.prog 124 #[v] w fun e w' => ∃ v', e = .returned v' ∧ OwnI w.heap.size w' v' l ∧ Below w.heap.size w w' := cloneIs v l w hl (SrcI.own o)
set_option maxRecDepth 100000 in
set_option maxHeartbeats 2000000 in
theorem cloneSs (v : Value) (l : List Sess) (w : World) (hl : l.length ≤ 4194304) (hs : SrcS w.heap.size w v l) :
    Calls Tryz.prog 125 #[v] w fun e w' => ∃ v', e = .returned v' ∧ OwnS w.heap.size w' v' l ∧ Below w.heap.size w w' := by
  have hs' := hs
  rcases hs with ⟨rfl, rfl⟩ | ⟨g, o, c, rfl, hlt, hc⟩
  · clear hs'
    have hq := fun (W : World) => Lib.run_eql_slice_nil W 28 _ none 0 0 0 0 Tryz.underlying28
    go_enter Tryz.func125, Tryz.ntmps125
    go_wp2_with fail
    go_ret
    exact ⟨_, rfl, World.ownsRow_nil _ _ _ _, Below.refl _ _⟩
  · have HS := Lib.hid (hs'.below ((Below.refl w.heap.size w).alloc (Nat.le_refl _) (.cells #[] 120)) (Nat.le_refl _))
    have HN := Lib.hid (ownS_new w w.heap.size (Nat.le_refl _))
    clear hs' hc
    have hq := fun (W : World) => Lib.run_eql_slice_nil W 28 _ (some ⟨g, o, none⟩) l.length c 0 0 Tryz.underlying28
    go_enter Tryz.func125, Tryz.ntmps125
    go_wp2_with (at_builtin; refine wpList_appS rfl _ _ rfl w.heap.size _ [] rfl HN.out w.heap.size _ l rfl HS.out (by simp; omega) (by simp) ?_; intro v' w1 hown' hb1 hg1)
    obtain ⟨y, q, rfl⟩ := hown'.shape
    go_wp2_with fail
    go_ret
    exact ⟨_, rfl, by simpa using hown', ((Below.refl w.heap.size w).alloc (Nat.le_refl _) _).trans hb1⟩
theorem cloneS (b : Nat) (v : Value) (l : List Sess) (w : World) (hl : l.length ≤ 4194304) (o : OwnS b w v l) :
    Calls Tryz.prog 125 #[v] w fun e w' => ∃ v', e = .returned v' ∧ OwnS w.heap.size w' v' l ∧ Below w.heap.size w w' := cloneSs v l w hl (SrcS.own o)
end Go.Proofs.YtpdpejlcilnafaaGreatDoor.kit
