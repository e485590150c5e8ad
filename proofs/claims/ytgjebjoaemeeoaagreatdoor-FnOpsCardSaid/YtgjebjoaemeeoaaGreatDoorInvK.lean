/-
  What lies in a slot, as a predicate of value and world that stays while the world only grows; for regions whose results lie in boxes.
-/
import Derived.Test.YtgjebjoaemeeoaaGreatDoorInvV
import Derived.Test.YtgjebjoaemeeoaaGreatDoorMach
import Derived.Test.YtgjebjoaemeeoaaGreatDoorEnts
namespace Go.Proofs.YtgjebjoaemeeoaaGreatDoor.kit
open Go.ChangeShapes Go.WideShapes Go.ChangeAt Go.RowKit
set_option linter.unusedVariables false
def isM (N : Nat) (L1 : List Int) (L2 : List Sess) (k : Value → Value) : Value → World → Prop := fun v w => ∃ x1 x2, v = k (.agg #[x1, x2]) ∧ OwnI N w x1 L1 ∧ OwnS N w x2 L2
theorem isM_mono (N : Nat) (L1 : List Int) (L2 : List Sess) (k : Value → Value) : Mono (isM N L1 L2 k) := fun _ _ _ ⟨x1, x2, h, h1, h2⟩ hb => ⟨x1, x2, h, h1.later hb, h2.later hb⟩
def isB (N : Nat) (t : TypeId) (x y : Value) : Value → World → Prop := fun v w => ∃ p, v = .pointer (some ⟨p, 0, none⟩) ∧ Box2 w p t x y ∧ N ≤ p
theorem isB_mono (N : Nat) (t : TypeId) (x y : Value) : Mono (isB N t x y) := fun _ _ _ ⟨p, h, h1, h2⟩ hb => ⟨p, h, h1.later hb, h2⟩
def isE (N : Nat) (L : List Ent) : Value → World → Prop := fun v w => OwnE N w v L
theorem isE_mono (N : Nat) (L : List Ent) : Mono (isE N L) := fun _ _ _ h hb => OwnE.later h hb
theorem row_set2 {W : World} {base : Nat} {e : TypeId} {size k b : Nat} {v : Value} {xs : List Value} {t : TypeId} {x y : Value} (hr : W.ownsRow base e size v k xs) (hb : Box2 W b t x y) (hte : t ≠ e) (u z : Value) :
    ((W.setCell ⟨b, 0, none⟩ u).setCell ⟨b, 1, none⟩ z).ownsRow base e size v k xs :=
  ownsRow_setCell_other (ownsRow_setCell_other hr (hb.not_row hte hr) u) (hb.not_row hte hr) z
theorem below_set2 {B b : Nat} {w W : World} (h : Below B w W) (hb : B ≤ b) (u z : Value) : Below B w ((W.setCell ⟨b, 0, none⟩ u).setCell ⟨b, 1, none⟩ z) :=
  (h.setCell (p := ⟨b, 0, none⟩) hb u).setCell (p := ⟨b, 1, none⟩) hb z
end Go.Proofs.YtgjebjoaemeeoaaGreatDoor.kit
