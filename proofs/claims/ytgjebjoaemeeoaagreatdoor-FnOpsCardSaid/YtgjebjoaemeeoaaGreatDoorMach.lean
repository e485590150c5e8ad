/-
  The laws' helpers on machines: copied, equal, marked, held.
-/
import Derived.Test.YtgjebjoaemeeoaaGreatDoorSess3
import Derived.Deep.DeepCutAuto
namespace Go.Proofs.YtgjebjoaemeeoaaGreatDoor.kit
open Go.ChangeShapes Go.WideShapes Go.ChangeAt Go.RowKit
set_option linter.unusedVariables false

/-- the two rows of a machine of the call's own never share a block: their elements' types differ -/
theorem own_apart {b1 b2 : Nat} {w : World} {v1 v2 : Value} {l1 : List Int} {l2 : List Sess} (h1 : OwnI b1 w v1 l1) (h2 : OwnS b2 w v2 l2) : ∀ g, v1.ownBlock = some g → v2.ownBlock = some g → False := by
  intro g hg1 hg2
  rcases h1.2 with ⟨rfl, _⟩ | ⟨g1, c1, cur1, rfl, _, hh1, _⟩
  · cases hg1
  · rcases h2.2 with ⟨rfl, _⟩ | ⟨g2, c2, cur2, rfl, _, hh2, _⟩
    · cases hg2
    · cases hg1
      cases hg2
      rw [hh1] at hh2
      cases hh2
theorem OwnS.setBelow {base : Nat} {w : World} {v : Value} {l : List Sess} (h : OwnS base w v l) {a : Addr} (ha : a.block < base) (u : Value) : OwnS base (w.setCell a u) v l := ownsRow_setCell_below h ha u
theorem OwnS.shape {base : Nat} {w : World} {v : Value} {l : List Sess} (h : OwnS base w v l) : ∃ a c, v = .slice a l.length c := by obtain ⟨a, c, h1, _⟩ := h.form; exact ⟨a, c, h1⟩
theorem atS_low {w : World} {a : Option Addr} {l : List Sess} (h : AtS w a l) : ∀ x : Addr, a = some x → 0 < l.length → x.block < w.heap.size := fun x hx h0 => by
  obtain ⟨g, o, hx', hlt, _⟩ := h 0 h0
  rw [hx] at hx'; cases hx'; exact hlt
end Go.Proofs.YtgjebjoaemeeoaaGreatDoor.kit
