/-
  Chapter 7: what spec's and impl's MissingChunk return.
-/
import Derived.Test.YtibpajlfcknegaaDoorTxts
namespace Go.Proofs.YtibpajlfcknegaaDoor.kit
open Go.ChangeShapes Go.WideShapes Go.ChangeAt Go.RowKit
set_option linter.unusedVariables false

/-- the first empty string's place; the length if there is none -/
def fE : List ByteArray → Nat
  | [] => 0
  | b :: r => if b.toList.isEmpty = true then 0 else fE r + 1
theorem fE_of : ∀ (l : List ByteArray) (k : Nat), k ≤ l.length → (∀ j, j < k → (l.getD j .empty).toList.isEmpty = false) → (k < l.length → (l.getD k .empty).toList.isEmpty = true) → fE l = k
  | [], k, h, _, _ => by
    have : k = 0 := by simpa using h
    subst this; rfl
  | b :: r, 0, _, _, h => by
    have := h (by simp)
    unfold fE
    rw [if_pos (by simpa using this)]
  | b :: r, k + 1, h1, h2, h3 => by
    have hb : b.toList.isEmpty = false := h2 0 (by omega)
    unfold fE
    rw [if_neg (by simp [hb]), fE_of r k (by simpa using h1) (fun j hj => h2 (j + 1) (by omega)) (fun p => h3 (by simpa using p))]
/-- the missing chunk -/
def missC (l : List ByteArray) (t : Int) : Int := if fE l < l.length then (fE l : Int) else if l.length = 0 ∧ 0 < t then 0 else -1
/-- slices.Index at "" -/
def idxE (l : List ByteArray) : Int := if fE l < l.length then (fE l : Int) else -1
theorem idxE_at {l : List ByteArray} {k : Nat} (h : k < l.length) (h1 : ∀ j, j < k → (l.getD j .empty).toList.isEmpty = false) (h2 : (l.getD k .empty).toList.isEmpty = true) : idxE l = (k : Int) ∧ ∀ t, missC l t = (k : Int) := by
  have e := fE_of l k (by omega) h1 (fun _ => h2)
  unfold idxE missC
  rw [e, if_pos h]
  exact ⟨rfl, fun t => by rw [if_pos h]⟩
theorem idxE_none {l : List ByteArray} (h1 : ∀ j, j < l.length → (l.getD j .empty).toList.isEmpty = false) : idxE l = -1 ∧ ∀ t, missC l t = if l.length = 0 ∧ 0 < t then 0 else -1 := by
  have e := fE_of l l.length (Nat.le_refl _) h1 (fun h => absurd h (Nat.lt_irrefl _))
  unfold idxE missC
  rw [e, if_neg (Nat.lt_irrefl _)]
  exact ⟨rfl, fun t => by rw [if_neg (Nat.lt_irrefl _)]⟩
theorem idxE_miss {l : List ByteArray} {t : Int} (h : ¬ (l.length = 0 ∧ 0 < t)) : missC l t = idxE l := by
  unfold missC idxE
  rw [if_neg h]
end Go.Proofs.YtibpajlfcknegaaDoor.kit
