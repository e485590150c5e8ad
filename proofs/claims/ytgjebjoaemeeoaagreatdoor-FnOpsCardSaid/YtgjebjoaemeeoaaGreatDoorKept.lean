/-
  Words for a statement that Go may carry out in several orders, and whose calls make memory: what a world keeps of an elder one; an operation's value in a block of its own.
-/
import Derived.Test.YtgjebjoaemeeoaaGreatDoorStructs
import Derived.Handy
import Derived.OwnWalk
namespace Go.Proofs.YtgjebjoaemeeoaaGreatDoor.kit
open Go.ChangeShapes Go.WideShapes Go.ChangeAt Go.RowKit
set_option linter.unusedVariables false

/-- the two facts of a region whose calls make memory: nothing below B has turned since W0 -/
theorem kept_of {B : Nat} {W0 w : World} (h : Below B W0 w) : Below B W0 w ∧ (∀ b o, b < B → w.cell? ⟨b, o, none⟩ = W0.cell? ⟨b, o, none⟩) := ⟨h, fun b o hlt => h.cell (p := ⟨b, o, none⟩) hlt⟩
theorem kept_drew {B : Nat} {W0 w : World} (h : Below B W0 w ∧ (∀ b o, b < B → w.cell? ⟨b, o, none⟩ = W0.cell? ⟨b, o, none⟩)) : Below B W0 w.drew ∧ (∀ b o, b < B → w.drew.cell? ⟨b, o, none⟩ = W0.cell? ⟨b, o, none⟩) :=
  ⟨h.1.drew, fun b o hb => by simpa using h.2 b o hb⟩
theorem kept_next {B : Nat} {W0 w w1 : World} (h : Below B W0 w ∧ (∀ b o, b < B → w.cell? ⟨b, o, none⟩ = W0.cell? ⟨b, o, none⟩)) (hb : Below w.heap.size w w1) (h0 : B ≤ W0.heap.size) :
    Below B W0 w1 ∧ (∀ b o, b < B → w1.cell? ⟨b, o, none⟩ = W0.cell? ⟨b, o, none⟩) := kept_of (h.1.trans (hb.mono (Nat.le_trans h0 h.1.size)))

theorem kept_alloc {B : Nat} {W0 w : World} (h : Below B W0 w ∧ (∀ b o, b < B → w.cell? ⟨b, o, none⟩ = W0.cell? ⟨b, o, none⟩)) (h0 : B ≤ W0.heap.size) (x : Obj) :
    Below B W0 (w.alloc x) ∧ (∀ b o, b < B → (w.alloc x).cell? ⟨b, o, none⟩ = W0.cell? ⟨b, o, none⟩) := kept_of (h.1.alloc (Nat.le_trans h0 h.1.size) x)
theorem kept_size {B : Nat} {W0 w w1 : World} (h : Below B W0 w ∧ (∀ b o, b < B → w.cell? ⟨b, o, none⟩ = W0.cell? ⟨b, o, none⟩)) (hb : Below w.heap.size w w1) (h0 : B ≤ W0.heap.size) : B ≤ w1.heap.size :=
  Nat.le_trans h0 (Nat.le_trans h.1.size hb.size)
theorem kept_store {B : Nat} {W0 w : World} {x : Obj} (h : Below B W0 (w.alloc x) ∧ (∀ b o, b < B → (w.alloc x).cell? ⟨b, o, none⟩ = W0.cell? ⟨b, o, none⟩)) (hy : Hid (B ≤ w.heap.size)) (y : Obj) :
    Below B W0 (w.alloc y) ∧ (∀ b o, b < B → (w.alloc y).cell? ⟨b, o, none⟩ = W0.cell? ⟨b, o, none⟩) := by
  refine kept_of ⟨h.1.os, h.1.tape, h.1.output, by have := h.1.size; simpa using this, fun k hk => ?_⟩
  have h1 := h.1.block k hk
  rw [← h1]
  have e : ∀ z : Obj, (w.alloc z).heap[k]? = w.heap[k]? := fun z => ((Below.refl w.heap.size w).alloc (Nat.le_refl _) z).block k (Nat.lt_of_lt_of_le hk hy.out)
  rw [e, e]
theorem kept_set {B : Nat} {W0 w : World} {b : Nat} (h : Below B W0 w ∧ (∀ b o, b < B → w.cell? ⟨b, o, none⟩ = W0.cell? ⟨b, o, none⟩)) (hy : Hid (B ≤ b)) (v0 v1 v2 v3 v4 v5 : Value) :
    Below B W0 ((((((w.setCell ⟨b, 0, none⟩ v0).setCell ⟨b, 1, none⟩ v1).setCell ⟨b, 2, none⟩ v2).setCell ⟨b, 3, none⟩ v3).setCell ⟨b, 4, none⟩ v4).setCell ⟨b, 5, none⟩ v5) ∧
    (∀ b' o, b' < B → ((((((w.setCell ⟨b, 0, none⟩ v0).setCell ⟨b, 1, none⟩ v1).setCell ⟨b, 2, none⟩ v2).setCell ⟨b, 3, none⟩ v3).setCell ⟨b, 4, none⟩ v4).setCell ⟨b, 5, none⟩ v5).cell? ⟨b', o, none⟩ = W0.cell? ⟨b', o, none⟩) :=
  kept_of ((((((h.1.setCell hy.out _).setCell hy.out _).setCell hy.out _).setCell hy.out _).setCell hy.out _).setCell hy.out _)
/-- an operation lies in block b, free to be written -/
structure OpAt (w : World) (b : Nat) (c s k o d v : Int) : Prop where
  c0 : w.cell? ⟨b, 0, none⟩ = some (.int .i64 c)
  c1 : w.cell? ⟨b, 1, none⟩ = some (.int .i64 s)
  c2 : w.cell? ⟨b, 2, none⟩ = some (.int .i64 k)
  c3 : w.cell? ⟨b, 3, none⟩ = some (.int .i64 o)
  c4 : w.cell? ⟨b, 4, none⟩ = some (.int .i64 d)
  c5 : w.cell? ⟨b, 5, none⟩ = some (.int .i64 v)
  f0 : w.frozen? ⟨b, 0, none⟩ = false
  f1 : w.frozen? ⟨b, 1, none⟩ = false
  f2 : w.frozen? ⟨b, 2, none⟩ = false
  f3 : w.frozen? ⟨b, 3, none⟩ = false
  f4 : w.frozen? ⟨b, 4, none⟩ = false
  f5 : w.frozen? ⟨b, 5, none⟩ = false
theorem OpAt.lt {w : World} {b : Nat} {c s k o d v : Int} (h : OpAt w b c s k o d v) : b < w.heap.size := World.block_lt_of_cell? w _ h.c0
theorem OpAt.below {w w1 : World} {B b : Nat} {c s k o d v : Int} (h : OpAt w b c s k o d v) (hb : Below B w w1) (h0 : b < B) : OpAt w1 b c s k o d v := by
  have hc := fun o => hb.cell (p := ⟨b, o, none⟩) h0
  have hf := fun o => hb.frozen (p := ⟨b, o, none⟩) h0
  exact ⟨(hc 0).trans h.c0, (hc 1).trans h.c1, (hc 2).trans h.c2, (hc 3).trans h.c3, (hc 4).trans h.c4, (hc 5).trans h.c5, (hf 0).trans h.f0, (hf 1).trans h.f1, (hf 2).trans h.f2, (hf 3).trans h.f3, (hf 4).trans h.f4, (hf 5).trans h.f5⟩
theorem OpAt.later {w w1 : World} {b : Nat} {c s k o d v : Int} (h : OpAt w b c s k o d v) (hb : Below w.heap.size w w1) : OpAt w1 b c s k o d v := h.below hb h.lt
theorem OpAt.alloc (w : World) {c s k o d v : Int} : OpAt (w.alloc (.cells #[.int .i64 c, .int .i64 s, .int .i64 k, .int .i64 o, .int .i64 d, .int .i64 v] 25)) w.heap.size c s k o d v := by
  have hc : ∀ q : Nat, (w.alloc (.cells #[.int .i64 c, .int .i64 s, .int .i64 k, .int .i64 o, .int .i64 d, .int .i64 v] 25)).frozen? ⟨w.heap.size, q, none⟩ = false := fun q => World.frozen?_alloc_new w _ _ q
  refine ⟨?_, ?_, ?_, ?_, ?_, ?_, hc _, hc _, hc _, hc _, hc _, hc _⟩ <;> (rw [World.cell?_alloc_at _ _ _ _ rfl]; rfl)
theorem OpAt.drew {w : World} {b : Nat} {c s k o d v : Int} (h : OpAt w b c s k o d v) : OpAt w.drew b c s k o d v := ⟨h.c0, h.c1, h.c2, h.c3, h.c4, h.c5, h.f0, h.f1, h.f2, h.f3, h.f4, h.f5⟩
/-- .. behind a store of a whole operation -/
theorem OpAt.store {w : World} {b : Nat} {c s k o d v : Int} (h : OpAt w b c s k o d v) (c' s' k' o' d' v' : Int) :
    OpAt ((((((w.setCell ⟨b, 0, none⟩ (.int .i64 c')).setCell ⟨b, 1, none⟩ (.int .i64 s')).setCell ⟨b, 2, none⟩ (.int .i64 k')).setCell ⟨b, 3, none⟩ (.int .i64 o')).setCell ⟨b, 4, none⟩ (.int .i64 d')).setCell ⟨b, 5, none⟩ (.int .i64 v')) b c' s' k' o' d' v' := by
  obtain ⟨c0, c1, c2, c3, c4, c5, f0, f1, f2, f3, f4, f5⟩ := h
  constructor <;> go_simp
theorem OpAt.setKind {w : World} {b : Nat} {c s k o d v : Int} (h : OpAt w b c s k o d v) (k' : Int) : OpAt (w.setCell ⟨b, 2, none⟩ (.int .i64 k')) b c s k' o d v := by
  obtain ⟨c0, c1, c2, c3, c4, c5, f0, f1, f2, f3, f4, f5⟩ := h
  constructor <;> go_simp
theorem OpAt.setOld {w : World} {b : Nat} {c s k o d v : Int} (h : OpAt w b c s k o d v) (d' : Int) : OpAt (w.setCell ⟨b, 4, none⟩ (.int .i64 d')) b c s k o d' v := by
  obtain ⟨c0, c1, c2, c3, c4, c5, f0, f1, f2, f3, f4, f5⟩ := h
  constructor <;> go_simp
end Go.Proofs.YtgjebjoaemeeoaaGreatDoor.kit
