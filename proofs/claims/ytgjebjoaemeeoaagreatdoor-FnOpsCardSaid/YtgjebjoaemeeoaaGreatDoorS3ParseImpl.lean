/-
  Chapter 3: how the program reads an operation: numbers out of words, the action that a word and numbers stand for.
-/
import Derived.Test.YtgjebjoaemeeoaaGreatDoorParseInts
import Derived.Test.YtgjebjoaemeeoaaGreatDoorS3Math
import Derived.Test.YtgjebjoaemeeoaaGreatDoorInts
import Derived.Test.YtgjebjoaemeeoaaGreatDoorC1ParseImpl
import Derived.Deep.RegionHeld3
import Derived.Deep.DrawnRows
namespace Go.Proofs.YtgjebjoaemeeoaaGreatDoor.kit
open Go.ChangeShapes Go.WideShapes Go.ChangeAt Go.RowKit
set_option linter.unusedVariables false
attribute [local go_sem ↓] Go.wp_at_zero Go.wp_at_succ

set_option maxRecDepth 100000 in
theorem actionWrite (g c : Nat) (x y : Int) (w : World) (hc : 2 ≤ c) (c0 : w.cell? ⟨g, 0, none⟩ = some (.int .i64 x)) (c1 : w.cell? ⟨g, 1, none⟩ = some (.int .i64 y)) :
    Calls Tryz.prog 36 #[str wW, .slice (some ⟨g, 0, none⟩) 2 c] w fun e w' => e = .returned (.tuple #[.iface 116 (.agg #[.int .i64 x, .int .i64 y]), .bool true]) ∧ Below w.heap.size w w' := by
  unfold wW
  go_enter Tryz.func36, Tryz.ntmps36
  go_wp2_with fail
  go_quiet (fail)
  go_wp2_with fail
  go_ret2
  exact ⟨rfl, below_drewN (Below.refl _ _) _⟩
set_option maxRecDepth 100000 in
theorem actionSwap (g c : Nat) (x z y : Int) (w : World) (hc : 3 ≤ c) (c0 : w.cell? ⟨g, 0, none⟩ = some (.int .i64 x)) (c1 : w.cell? ⟨g, 1, none⟩ = some (.int .i64 z)) (c2 : w.cell? ⟨g, 2, none⟩ = some (.int .i64 y)) :
    Calls Tryz.prog 36 #[str wS, .slice (some ⟨g, 0, none⟩) 3 c] w fun e w' => e = .returned (.tuple #[.iface 118 (.agg #[.int .i64 x, .int .i64 z, .int .i64 y]), .bool true]) ∧ Below w.heap.size w w' := by
  unfold wS
  go_enter Tryz.func36, Tryz.ntmps36
  go_wp2_with fail
  go_quiet (fail)
  go_wp2_with fail
  go_ret2
  exact ⟨rfl, below_drewN (Below.refl _ _) _⟩
set_option maxRecDepth 100000 in
theorem actionNone (p : List UInt8) (a : Option Addr) (n c : Nat) (w : World) (h1 : ¬ (p = wW ∧ n = 2)) (h2 : ¬ (p = wS ∧ n = 3)) :
    Calls Tryz.prog 36 #[str p, .slice a n c] w fun e w' => e = .returned (.tuple #[.nilIface, .bool false]) ∧ Below w.heap.size w w' := by
  by_cases hw : p = wW
  · have hn : ((n : Int) == 2) = false := by rw [beq_eq_false_iff_ne]; intro e; exact h1 ⟨hw, by omega⟩
    subst hw
    clear h1 h2
    unfold wW
    go_enter Tryz.func36, Tryz.ntmps36
    go_wp2_with fail
    go_ret2
    exact ⟨rfl, Below.refl _ _⟩
  · by_cases hs : p = wS
    · have hn : ((n : Int) == 3) = false := by rw [beq_eq_false_iff_ne]; intro e; exact h2 ⟨hs, by omega⟩
      subst hs
      clear h1 h2 hw
      unfold wS
      go_enter Tryz.func36, Tryz.ntmps36
      go_wp2_with fail
      go_ret2
      exact ⟨rfl, Below.refl _ _⟩
    · have g1 : (p == wW) = false := by simpa using hw
      have g2 : (p == wS) = false := by simpa using hs
      unfold wW at g1
      unfold wS at g2
      clear h1 h2 hw hs
      go_enter Tryz.func36, Tryz.ntmps36
      go_wp2_with fail
      go_ret2
      exact ⟨rfl, Below.refl _ _⟩
set_option maxRecDepth 100000 in
theorem writeOp (o v c s : Int) (w : World) : Calls Tryz.prog 158 #[.agg #[.int .i64 o, .int .i64 v], .int .i64 c, .int .i64 s] w fun e w' => e = .returned (opV c s 1 o 0 v) ∧ Below w.heap.size w w' := by
  unfold opV
  go_enter Tryz.func158, Tryz.ntmps158
  go_wp2_with fail
  go_returns
  exact ⟨rfl, by go_grown⟩
set_option maxRecDepth 100000 in
theorem swapOp (o d v c s : Int) (w : World) : Calls Tryz.prog 162 #[.agg #[.int .i64 o, .int .i64 d, .int .i64 v], .int .i64 c, .int .i64 s] w fun e w' => e = .returned (opV c s 2 o d v) ∧ Below w.heap.size w w' := by
  unfold opV
  go_enter Tryz.func162, Tryz.ntmps162
  go_wp2_with fail
  go_returns
  exact ⟨rfl, by go_grown⟩
end Go.Proofs.YtgjebjoaemeeoaaGreatDoor.kit
