/-
  What lies in a slot, as a predicate of value and world that stays while the world only grows.
-/
import Derived.Test.YtgjebjoaemeeoaaInv
namespace Go.Proofs.Ytgjebjoaemeeoaa.kit
open Go.ChangeShapes Go.WideShapes Go.ChangeAt Go.RowKit
set_option linter.unusedVariables false
def Mono (f : Value → World → Prop) : Prop := ∀ v w w', f v w → Below w.heap.size w w' → f v w'
def AllMono : List (Value → World → Prop) → Prop
  | [] => True
  | f :: fs => Mono f ∧ AllMono fs
def Fs (fs : List (Value → World → Prop)) (i : Nat) : Value → World → Prop := fs.getD i (fun _ _ => True)
theorem Fs_mono : ∀ {fs : List (Value → World → Prop)}, AllMono fs → ∀ i v w w', Fs fs i v w → Below w.heap.size w w' → Fs fs i v w'
  | [], _, _, _, _, _, _, _ => trivial
  | f :: fs, h, 0, v, w, w', hf, hb => h.1 v w w' hf hb
  | f :: fs, h, i + 1, v, w, w', hf, hb => Fs_mono (fs := fs) h.2 i v w w' hf hb
def isV (x : Value) : Value → World → Prop := fun v _ => v = x
theorem isV_mono (x : Value) : Mono (isV x) := fun _ _ _ h _ => h
/-- a guarded operation whose guard is met -/
theorem wpOp_stepG {P : Program} {ops : Array Oper} {Q : Exit → Act → World → Prop} {i : Nat} {o : Oper} {K : Act → World → Prop} {a : Act} {w : World} {j d : Nat} {b : Bool} {oj : Oper} (ho : ops[i]? = some o) (hg : o.guard = some (j, b)) (hj : ops[j]? = some oj) (hd : oj.dst = some d) (hv : a.tmps[d]? = some (.bool b))
    (h : ∀ K' : Act → World → Prop, (∀ a w, K a w → K' a w) → Oper.wp P o a w K' Q) : wpOp P ops Q i K a w := by
  have hw : Region.wanted o (yielded ops a.tmps) = true := by
    unfold Region.wanted yielded
    rw [hg]
    show (_ == some b) = true
    rw [hj]
    simp [hd, hv]
  unfold wpOp
  rw [ho]
  show if Region.wanted o (yielded ops a.tmps) = true then _ else _
  rw [if_pos hw]
  exact .inl (h K (fun _ _ h => h))
end Go.Proofs.Ytgjebjoaemeeoaa.kit
