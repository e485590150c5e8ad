/-
  Words for a statement that Go may carry out in several orders, and whose calls make memory: what a world keeps of an elder one; an operation's value in a block of its own.
-/
import Derived.Test.YtmojigimlhjphaaDoorStructs
import Derived.Handy
import Derived.OwnWalk
namespace Go.Proofs.YtmojigimlhjphaaDoor.kit
open Go.ChangeShapes Go.WideShapes Go.ChangeAt Go.RowKit
set_option linter.unusedVariables false

/-- the two facts of a region whose calls make memory: nothing below B has turned since W0 -/
theorem kept_of {B : Nat} {W0 w : World} (h : Below B W0 w) : Below B W0 w ∧ (∀ b o, b < B → w.cell? ⟨b, o, none⟩ = W0.cell? ⟨b, o, none⟩) := ⟨h, fun b o hlt => h.cell (p := ⟨b, o, none⟩) hlt⟩
theorem kept_drew {B : Nat} {W0 w : World} (h : Below B W0 w ∧ (∀ b o, b < B → w.cell? ⟨b, o, none⟩ = W0.cell? ⟨b, o, none⟩)) : Below B W0 w.drew ∧ (∀ b o, b < B → w.drew.cell? ⟨b, o, none⟩ = W0.cell? ⟨b, o, none⟩) :=
  ⟨h.1.drew, fun b o hb => by simpa using h.2 b o hb⟩
theorem kept_next {B : Nat} {W0 w w1 : World} (h : Below B W0 w ∧ (∀ b o, b < B → w.cell? ⟨b, o, none⟩ = W0.cell? ⟨b, o, none⟩)) (hb : Below w.heap.size w w1) (h0 : B ≤ W0.heap.size) :
    Below B W0 w1 ∧ (∀ b o, b < B → w1.cell? ⟨b, o, none⟩ = W0.cell? ⟨b, o, none⟩) := kept_of (h.1.trans (hb.mono (Nat.le_trans h0 h.1.size)))

theorem kept_alloc {B : Nat} {W0 w : World} (h : Below B W0 w ∧ (∀ b o, b < B → w.cell? ⟨b, o, none⟩ = W0.cell? ⟨b, o, none⟩)) (h0 : B ≤ W0.heap.size) (x : Obj) :
    Below B W0 (w.alloc x) ∧ (∀ b o, b < B → (w.alloc x).cell? ⟨b, o, none⟩ = W0.cell? ⟨b, o, none⟩) := kept_of (h.1.alloc (Nat.le_trans h0 h.1.size) x)
theorem kept_size {B : Nat} {W0 w w1 : World} (h : Below B W0 w ∧ (∀ b o, b < B → w.cell? ⟨b, o, none⟩ = W0.cell? ⟨b, o, none⟩)) (hb : Below w.heap.size w w1) (h0 : B ≤ W0.heap.size) : B ≤ w1.heap.size :=
  Nat.le_trans h0 (Nat.le_trans h.1.size hb.size)
theorem kept_store {B : Nat} {W0 w : World} {x : Obj} (h : Below B W0 (w.alloc x) ∧ (∀ b o, b < B → (w.alloc x).cell? ⟨b, o, none⟩ = W0.cell? ⟨b, o, none⟩)) (hy : Hid (B ≤ w.heap.size)) (y : Obj) :
    Below B W0 (w.alloc y) ∧ (∀ b o, b < B → (w.alloc y).cell? ⟨b, o, none⟩ = W0.cell? ⟨b, o, none⟩) := by
  refine kept_of ⟨h.1.os, h.1.tape, h.1.output, by have := h.1.size; simpa using this, fun k hk => ?_⟩
  have h1 := h.1.block k hk
  rw [← h1]
  have e : ∀ z : Obj, (w.alloc z).heap[k]? = w.heap[k]? := fun z => ((Below.refl w.heap.size w).alloc (Nat.le_refl _) z).block k (Nat.lt_of_lt_of_le hk hy.out)
  rw [e, e]
theorem kept_set {B : Nat} {W0 w : World} {b : Nat} (h : Below B W0 w ∧ (∀ b o, b < B → w.cell? ⟨b, o, none⟩ = W0.cell? ⟨b, o, none⟩)) (hy : Hid (B ≤ b)) (v0 v1 v2 v3 v4 v5 : Value) :
    Below B W0 ((((((w.setCell ⟨b, 0, none⟩ v0).setCell ⟨b, 1, none⟩ v1).setCell ⟨b, 2, none⟩ v2).setCell ⟨b, 3, none⟩ v3).setCell ⟨b, 4, none⟩ v4).setCell ⟨b, 5, none⟩ v5) ∧
    (∀ b' o, b' < B → ((((((w.setCell ⟨b, 0, none⟩ v0).setCell ⟨b, 1, none⟩ v1).setCell ⟨b, 2, none⟩ v2).setCell ⟨b, 3, none⟩ v3).setCell ⟨b, 4, none⟩ v4).setCell ⟨b, 5, none⟩ v5).cell? ⟨b', o, none⟩ = W0.cell? ⟨b', o, none⟩) :=
  kept_of ((((((h.1.setCell hy.out _).setCell hy.out _).setCell hy.out _).setCell hy.out _).setCell hy.out _).setCell hy.out _)
end Go.Proofs.YtmojigimlhjphaaDoor.kit
