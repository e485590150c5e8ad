/-
  The row of a text's parts in memory; rows and boxes that stay while others change.
-/
import Derived.Test.YtmojigimlhjphaaDoorS3Cut
import Derived.Test.YtmojigimlhjphaaDoorRowPut
namespace Go.Proofs.YtmojigimlhjphaaDoor.kit
open Go.ChangeShapes Go.WideShapes Go.ChangeAt Go.RowKit
set_option linter.unusedVariables false
set_option linter.unusedSimpArgs false

/-- the row of the parts: its block stays -/
def PartsAt (w : World) (g : Nat) (ps : List (List UInt8)) : Prop := (∃ cs r, w.heap[g]? = some (.cells cs 9 r)) ∧ ∀ j, j < ps.length → w.cell? ⟨g, j, none⟩ = some (str (ps.getD j []))
theorem PartsAt.lt {w : World} {g : Nat} {ps : List (List UInt8)} (h : PartsAt w g ps) : g < w.heap.size := by obtain ⟨cs, r, h⟩ := h.1; exact (Array.getElem?_eq_some_iff.1 h).1
theorem PartsAt.same {w w' : World} {g : Nat} {ps : List (List UInt8)} (h : PartsAt w g ps) (hb : w'.heap[g]? = w.heap[g]?) : PartsAt w' g ps := by
  obtain ⟨cs, r, hc⟩ := h.1
  refine ⟨⟨cs, r, hb.trans hc⟩, fun j hj => ?_⟩
  rw [← h.2 j hj]
  simp only [World.cell?, hb]
theorem PartsAt.later {w w' : World} {g : Nat} {ps : List (List UInt8)} (h : PartsAt w g ps) (hb : Below w.heap.size w w') : PartsAt w' g ps := h.same (hb.block g h.lt)
theorem parts_of {base : Nat} {w : World} {v : Value} {ps : List (List UInt8)} (h : w.ownsRow base 9 1 v ps.length (strs ps)) (h0 : 0 < ps.length) :
    ∃ g cap, v = .slice (some ⟨g, 0, none⟩) ps.length cap ∧ ps.length ≤ cap ∧ cap ≤ maxLen ∧ PartsAt w g ps := by
  obtain ⟨g, cap, rfl, h1, h2, h3, h4, h5⟩ := strs_there h h0
  refine ⟨g, cap, rfl, h1, h2, ?_, h5⟩
  rcases h.2 with ⟨hv, _⟩ | ⟨q, c, cur, hv, _, hh, _⟩
  · cases hv
  · cases hv
    exact ⟨_, _, hh⟩
theorem PartsAt.past {w w' : World} {g : Nat} {ps : List (List UInt8)} (h : PartsAt w g ps) {e : TypeId} (hte : 9 ≠ e) {base size k : Nat} {v : Value} {xs : List Value} (hr : w.ownsRow base e size v k xs) (hg : w.grownBy w' v.ownBlock) : PartsAt w' g ps := by
  obtain ⟨cs, r, hc⟩ := h.1
  exact h.same (hg.block g h.lt (fun e => row_other hc hte hr e.symm))
theorem PartsAt.put {w : World} {g b : Nat} {ps : List (List UInt8)} (h : PartsAt w g ps) {t : TypeId} {cs : Array Value} (hb : BoxC w b t cs) (hte : t ≠ 9) (j : Nat) (u : Value) : PartsAt (w.setCell ⟨b, j, none⟩ u) g ps := by
  have hne : g ≠ b := fun e => by
    obtain ⟨cs', r, hc⟩ := h.1
    rw [e] at hc
    have := hc.symm.trans hb
    simp at this
    exact hte this.2.1.symm
  exact h.same (Below.heap_setCell _ _ _ _ (by simpa using hne))
theorem getD_at {s : ByteArray} {k : Nat} (h : k < s.size) : s.data.toList.getD k 0 = s[k] := by
  have hl : k < s.data.toList.length := by rw [Array.length_toList]; exact h
  rw [List.getD_eq_getElem?_getD, List.getElem?_eq_getElem hl]
  rfl
theorem numFromM (q : List UInt8) (w : World) (h : q.length ≤ 1048576) : Calls Tryd.prog 24 #[str q] w fun e w' => e = .returned (.int .i64 (numL q)) ∧ Below w.heap.size w w' := by
  have := numFrom ⟨q.toArray⟩ w (by rw [size_mk]; exact h)
  simpa using this
end Go.Proofs.YtmojigimlhjphaaDoor.kit
