/-
  The draws of chapter 1: what they may return; below the heap's old size nothing turns.
-/
import Derived.Test.YtgjebjoaemeeoaaDraw2
namespace Go.Proofs.Ytgjebjoaemeeoaa.kit
open Go.ChangeShapes Go.WideShapes Go.ChangeAt Go.RowKit
set_option linter.unusedVariables false

/-- code came in: a row of bytes below the heap's size -/
structure Code (w : World) (A : Option Addr) (len cap : Nat) (zs : List Int) : Prop where
  row : IsRow .u8 w A len cap zs
  low : ∀ x, A = some x → 0 < zs.length → x.block < w.heap.size
theorem code_of_row {w : World} {A : Option Addr} {len cap : Nat} {zs : List Int} (h : IsRow .u8 w A len cap zs) : Code w A len cap zs :=
  ⟨h, fun x hx h0 => by
    rcases h with ⟨h1, _⟩ | ⟨y, hy, _, _, _, h4, _⟩
    · rw [h1] at hx; cases hx
    · rw [hx] at hy
      obtain rfl := Option.some.inj hy
      have := World.block_lt_of_cell? w _ (h4 0 h0)
      rwa [block_add] at this⟩
theorem Code.below {w w' : World} {A : Option Addr} {len cap : Nat} {zs : List Int} (h : Code w A len cap zs) (hb : Below w.heap.size w w') : Code w' A len cap zs :=
  ⟨h.row.below hb h.low, fun x hx h0 => Nat.lt_of_lt_of_le (h.low x hx h0) hb.size⟩
theorem drew_below {g : Nat} {a w w' : World} (h : Below a.heap.size a w) (hg : a.heap.size ≤ g) (hd : Drew g w w') : Below a.heap.size a w' := grown_below h hd.1 h.size hg
end Go.Proofs.Ytgjebjoaemeeoaa.kit
