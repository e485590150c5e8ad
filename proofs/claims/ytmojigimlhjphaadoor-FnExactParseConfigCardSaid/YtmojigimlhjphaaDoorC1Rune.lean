/-
  strings.IndexRune over the sixteen hexadecimal digits, for every rune that a range over a string can give.
-/
import Derived.Test.YtmojigimlhjphaaDoorC1DecHex
import Derived.Test.YtmojigimlhjphaaDoorShelf
import Derived.Lib.OthersKept
import Derived.WalkSmall
namespace Go.Proofs.YtmojigimlhjphaaDoor.kit
open Go.ChangeShapes Go.WideShapes Go.ChangeAt Go.RowKit
set_option linter.unusedVariables false

theorem hexStr_low : ∀ (k : Nat), k < 16 → ∃ b : UInt8, hexStr[k]? = some b ∧ b.toNat < 128 := fun k hk => ⟨_, hexStr_at k hk, by revert k; decide +kernel⟩
end Go.Proofs.YtmojigimlhjphaaDoor.kit
