/-
  Chapter 1, hexadecimal digits: what spec's and impl's EncodeHex return, for every string; the digit functions.
-/
import Derived.Test.YtmojigimlhjphaaDoorC1Fixed
import Derived.Deep.DeepCutAuto
import Derived.Deep.RegionWith
import Derived.Lib.Strings
import Derived.StillTailTactics
namespace Go.Proofs.YtmojigimlhjphaaDoor.kit
open Go.ChangeShapes Go.WideShapes Go.ChangeAt Go.RowKit
set_option linter.unusedVariables false

/-- a half's digit -/
def hexc (k : Nat) : UInt8 := if k < 10 then UInt8.ofNat (48 + k) else UInt8.ofNat (87 + k)
def hexB (b : UInt8) : List UInt8 := [hexc (b.toNat / 16), hexc (b.toNat % 16)]
def encH (l : List UInt8) : List UInt8 := l.flatMap hexB
theorem encH_snoc (l : List UInt8) (b : UInt8) : encH (l ++ [b]) = encH l ++ hexB b := by simp [encH]
theorem encH_length (l : List UInt8) : (encH l).length = 2 * l.length := by
  induction l with
  | nil => rfl
  | cons b l ih =>
    have : encH (b :: l) = hexB b ++ encH l := by simp [encH]
    rw [this, List.length_append, ih]
    simp [hexB]; omega
def hexStr : ByteArray := { data := #[48, 49, 50, 51, 52, 53, 54, 55, 56, 57, 97, 98, 99, 100, 101, 102] }
theorem hexStr_at : ∀ (k : Nat) (h : k < 16), hexStr[k]? = some (hexc k) := by decide +kernel

theorem hexStr_get {k : Nat} (h : k < hexStr.size) : hexStr[k] = hexc k := by
  have := hexStr_at k h
  rw [ByteArray.getElem?_lt' _ _ h] at this
  exact Option.some.inj this
end Go.Proofs.YtmojigimlhjphaaDoor.kit
