/-
  What lies in a slot, as a predicate of value and world that stays while the world only grows.
-/
import Derived.Test.YtcjmgffhfgoipabDoorInv
namespace Go.Proofs.YtcjmgffhfgoipabDoor.kit
open Go.ChangeShapes Go.WideShapes Go.ChangeAt Go.RowKit
set_option linter.unusedVariables false
def Mono (f : Value → World → Prop) : Prop := ∀ v w w', f v w → Below w.heap.size w w' → f v w'
def AllMono : List (Value → World → Prop) → Prop
  | [] => True
  | f :: fs => Mono f ∧ AllMono fs
def Fs (fs : List (Value → World → Prop)) (i : Nat) : Value → World → Prop := fs.getD i (fun _ _ => True)
theorem Fs_mono : ∀ {fs : List (Value → World → Prop)}, AllMono fs → ∀ i v w w', Fs fs i v w → Below w.heap.size w w' → Fs fs i v w'
  | [], _, _, _, _, _, _, _ => trivial
  | f :: fs, h, 0, v, w, w', hf, hb => h.1 v w w' hf hb
  | f :: fs, h, i + 1, v, w, w', hf, hb => Fs_mono (fs := fs) h.2 i v w w' hf hb
def isV (x : Value) : Value → World → Prop := fun v _ => v = x
theorem isV_mono (x : Value) : Mono (isV x) := fun _ _ _ h _ => h
end Go.Proofs.YtcjmgffhfgoipabDoor.kit
