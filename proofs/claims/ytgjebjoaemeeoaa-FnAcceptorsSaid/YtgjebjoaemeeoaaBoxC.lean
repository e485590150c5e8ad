/-
  Boxes of any number of cells; regions that lay such a box.
-/
import Derived.Test.YtgjebjoaemeeoaaInv
import Derived.Test.YtgjebjoaemeeoaaKit
namespace Go.Proofs.Ytgjebjoaemeeoaa.kit
open Go.ChangeShapes Go.WideShapes Go.ChangeAt Go.RowKit
set_option linter.unusedVariables false

/-- the block b holds these cells, none of them frozen -/
def BoxC (W : World) (b : Nat) (t : TypeId) (cs : Array Value) : Prop := W.heap[b]? = some (.cells cs t (0, 0))
theorem BoxC.lt {W : World} {b : Nat} {t : TypeId} {cs : Array Value} (h : BoxC W b t cs) : b < W.heap.size := (Array.getElem?_eq_some_iff.1 h).1
theorem BoxC.c {W : World} {b : Nat} {t : TypeId} {cs : Array Value} (h : BoxC W b t cs) (j : Nat) {v : Value} (hv : cs[j]? = some v) : W.cell? ⟨b, j, none⟩ = some v := by simp [World.cell?, show W.heap[b]? = _ from h, hv]
theorem BoxC.f {W : World} {b : Nat} {t : TypeId} {cs : Array Value} (h : BoxC W b t cs) (q : Nat) : W.frozen? ⟨b, q, none⟩ = false := by simp [World.frozen?, show W.heap[b]? = _ from h]
theorem BoxC.later {W W' : World} {b : Nat} {t : TypeId} {cs : Array Value} (h : BoxC W b t cs) (hb : Below W.heap.size W W') : BoxC W' b t cs := (hb.block b h.lt).trans h
theorem BoxC.new (W : World) (t : TypeId) (cs : Array Value) : BoxC (W.alloc (.cells cs t)) W.heap.size t cs := heap_alloc_new W _
theorem BoxC.put {W : World} {b : Nat} {t : TypeId} {cs : Array Value} (h : BoxC W b t cs) (j : Nat) (u : Value) : BoxC (W.setCell ⟨b, j, none⟩ u) b t (cs.setIfInBounds j u) := by
  obtain ⟨hlt, hk⟩ := Array.getElem?_eq_some_iff.1 h
  show (W.heap.modify b _)[b]? = _
  rw [Array.getElem?_eq_getElem (by rw [Array.size_modify]; exact hlt), Array.getElem_modify_self, hk]
  rfl
theorem BoxC.keep {W : World} {b b' : Nat} {t : TypeId} {cs : Array Value} (h : BoxC W b t cs) (hne : b ≠ b') (j : Nat) (u : Value) : BoxC (W.setCell ⟨b', j, none⟩ u) b t cs :=
  (Below.heap_setCell _ _ _ _ (by simpa using hne)).trans h
theorem BoxC.grown {W W' : World} {b g : Nat} {t : TypeId} {cs : Array Value} (h : BoxC W b t cs) (hg : W.grownBy W' (some g)) (hne : b ≠ g) : BoxC W' b t cs := (hg.block b h.lt (fun e => hne (Option.some.inj e))).trans h
def isC (N : Nat) (t : TypeId) (cs : Array Value) : Value → World → Prop := fun v w => ∃ p, v = .pointer (some ⟨p, 0, none⟩) ∧ BoxC w p t cs ∧ N ≤ p
theorem isC_mono (N : Nat) (t : TypeId) (cs : Array Value) : ∀ v w w', isC N t cs v w → Below w.heap.size w w' → isC N t cs v w' := fun _ _ _ ⟨p, h, h1, h2⟩ hb => ⟨p, h, h1.later hb, h2⟩
end Go.Proofs.Ytgjebjoaemeeoaa.kit
