/-
  Rows and boxes that stay while others change.
-/
import Derived.Test.YtmojigimlhjphaaDoorBoxC
namespace Go.Proofs.YtmojigimlhjphaaDoor.kit
open Go.ChangeShapes Go.WideShapes Go.ChangeAt Go.RowKit
set_option linter.unusedVariables false
set_option linter.unusedSimpArgs false

/-- a row of another type is another block -/
theorem row_other {W : World} {g : Nat} {t e : TypeId} {cs : Array Value} {r : Nat × Nat} (h : W.heap[g]? = some (.cells cs t r)) (hte : t ≠ e) {base size k : Nat} {v : Value} {xs : List Value} (hr : W.ownsRow base e size v k xs) : v.ownBlock ≠ some g := by
  rcases hr.2 with ⟨rfl, _⟩ | ⟨q, cap, cur, rfl, _, hgb, _⟩
  · simp [Value.ownBlock]
  · intro e'
    obtain rfl : q = g := by simpa [Value.ownBlock] using e'
    have := h.symm.trans hgb
    simp at this
    exact hte this.2.1
/-- a box stays while a row grows -/
theorem BoxC.past {W W' : World} {b : Nat} {t e : TypeId} {cs : Array Value} (h : BoxC W b t cs) (hte : t ≠ e) {base size k : Nat} {v : Value} {xs : List Value} (hr : W.ownsRow base e size v k xs) (hg : W.grownBy W' v.ownBlock) : BoxC W' b t cs :=
  (hg.block b h.lt (fun e' => row_other (r := (0, 0)) h hte hr e'.symm)).trans h
theorem row_put {W : World} {base : Nat} {e : TypeId} {size k b : Nat} {v : Value} {xs : List Value} {t : TypeId} {cs : Array Value} (hr : W.ownsRow base e size v k xs) (hb : BoxC W b t cs) (hte : t ≠ e) (j : Nat) (u : Value) : (W.setCell ⟨b, j, none⟩ u).ownsRow base e size v k xs :=
  ownsRow_setCell_other hr (row_other (r := (0, 0)) hb hte hr) _
theorem rows_past {W W' : World} {base base' : Nat} {e e' : TypeId} {size size' k k' : Nat} {v u : Value} {xs ys : List Value} (h : W.ownsRow base e size u k xs) (hr : W.ownsRow base' e' size' v k' ys) (hte : e ≠ e') (hg : W.grownBy W' v.ownBlock) : W'.ownsRow base e size u k xs := by
  refine h.kept hg ?_
  rcases h.2 with ⟨rfl, _⟩ | ⟨g, cap, cur, rfl, _, hgb, _⟩
  · exact .inl rfl
  · exact .inr fun e2 => row_other hgb hte hr e2.symm
end Go.Proofs.YtmojigimlhjphaaDoor.kit
