/-
  A box stays while numbers are drawn; a store into a box that was made behind the cursor.
-/
import Derived.Test.YtgjebjoaemeeoaaDraw2
import Derived.Test.YtgjebjoaemeeoaaBoxC
namespace Go.Proofs.Ytgjebjoaemeeoaa.kit
open Go.ChangeShapes Go.WideShapes Go.ChangeAt Go.RowKit
set_option linter.unusedVariables false

theorem BoxC.drewn {g : Nat} {w w' : World} {b : Nat} {t : TypeId} {cs : Array Value} (h : BoxC w b t cs) (hd : Drew g w w') (hg : b ≠ g) : BoxC w' b t cs := (hd.1.block b h.lt (fun e => hg (Option.some.inj e))).trans h
theorem Drew.setC {g b : Nat} {a w : World} (h : Drew g a w) (hb : a.heap.size ≤ b) (hg : g < a.heap.size) (j : Nat) (u : Value) : Drew g a (w.setCell ⟨b, j, none⟩ u) :=
  h.below ((Below.refl _ _).setCell (p := ⟨b, j, none⟩) hb u |>.mono (by exact Nat.le_refl _)) hg
end Go.Proofs.Ytgjebjoaemeeoaa.kit
