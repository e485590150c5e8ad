/-
  Small words on rows of structs, where no row of sessions or entries is there to bring them.
-/
import Derived.Test.YtpdpejlcilnafaaIntsB
namespace Go.Proofs.Ytpdpejlcilnafaa.kit
open Go.ChangeShapes Go.WideShapes Go.ChangeAt Go.RowKit
set_option linter.unusedVariables false

theorem spot_none {w : World} {p : Addr} {v : Value} (h : w.cell? p = some v) : p = ⟨p.block, p.off, none⟩ := by
  obtain ⟨b, o, s⟩ := p
  unfold World.cell? at h
  split at h
  · split at h
    · cases h
    · rename_i hs
      cases s with
      | none => rfl
      | some x => simp at hs
  · cases h
theorem set_app_mid {α : Type} (a b c : List α) (i : Nat) (x : α) (hi : i < b.length) : (a ++ b ++ c).set (a.length + i) x = a ++ b.set i x ++ c := by
  rw [List.set_append_left (h := by simp; omega), List.set_append_right (h := by omega)]
  congr 2
  rw [Nat.add_sub_cancel_left]
end Go.Proofs.Ytpdpejlcilnafaa.kit
