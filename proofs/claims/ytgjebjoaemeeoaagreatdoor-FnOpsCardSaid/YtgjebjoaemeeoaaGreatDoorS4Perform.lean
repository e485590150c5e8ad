/-
  Chapter 4: impl's performOp: the object changed in place.
-/
import Derived.Test.YtgjebjoaemeeoaaGreatDoorS4Plain
namespace Go.Proofs.YtgjebjoaemeeoaaGreatDoor.kit
open Go.ChangeShapes Go.WideShapes Go.ChangeAt Go.RowKit
set_option linter.unusedVariables false

theorem OwnI.storedAt {b g cap : Nat} {w : World} {L : List Int} (h : OwnI b w (.slice (some ⟨g, 0, none⟩) L.length cap) L) (n : Nat) (hn : n < L.length) (x : Int) :
    OwnI b (w.setCell ⟨g, n, none⟩ (.int .i64 x)) (.slice (some ⟨g, 0, none⟩) L.length cap) (L.set n x) ∧ w.grownBy (w.setCell ⟨g, n, none⟩ (.int .i64 x)) (some g) := by
  have h2 := h.row.stored n (.int .i64 x)
  refine ⟨OwnI.of (n := L.length) h2.1 ?_, h2.2⟩
  rw [List.map_set]
theorem ownI_off {b g cap : Nat} {w : World} {L : List Int} (h : OwnI b w (.slice (some ⟨g, 0, none⟩) L.length cap) L) {a : Addr} (ha : g ≠ a.block) (u : Value) : OwnI b (w.setCell a u) (.slice (some ⟨g, 0, none⟩) L.length cap) L :=
  ownsRow_setCell_other h (fun e => ha (by cases e; rfl)) u
theorem grown_off {w w1 : World} {r : Option Nat} (h : w.grownBy w1 r) {a : Addr} (ha : w.heap.size ≤ a.block) (u : Value) : w.grownBy (w1.setCell a u) r :=
  ⟨h.os, h.tape, h.output, by simpa using h.size, fun k hk hr => (Below.heap_setCell _ _ _ _ (by omega)).trans (h.block k hk hr)⟩
theorem below_grownBy {w w1 : World} (h : Below w.heap.size w w1) (r : Option Nat) : w.grownBy w1 r := ⟨h.os, h.tape, h.output, h.size, fun k hk _ => h.block k hk⟩
theorem two_allocs (w : World) (x y : Obj) : Below w.heap.size w ((w.alloc x).alloc y) := ((Below.refl _ _).alloc (Nat.le_refl _) _).alloc (by simp) _
/-- whether a valid operation is done -/
def doneO (k d old : Int) : Bool := (k == 1) || (old == d)
def setO (L : List Int) (n : Nat) (k d v : Int) : List Int := if doneO k d (L.getD n 0) then L.set n v else L
theorem setO_len (L : List Int) (n : Nat) (k d v : Int) : (setO L n k d v).length = L.length := by unfold setO; split <;> simp
end Go.Proofs.YtgjebjoaemeeoaaGreatDoor.kit
