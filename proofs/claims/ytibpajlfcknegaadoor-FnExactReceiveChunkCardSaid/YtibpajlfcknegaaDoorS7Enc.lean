/-
  Chapter 7, chunks: their text; the chunks of a string as a plain list.
-/
import Derived.Test.YtibpajlfcknegaaDoorC1Int
import Derived.Test.YtibpajlfcknegaaDoorS6Sum
import Derived.Test.YtibpajlfcknegaaDoorTxts
namespace Go.Proofs.YtibpajlfcknegaaDoor.kit
open Go.ChangeShapes Go.WideShapes Go.ChangeAt Go.RowKit
set_option linter.unusedVariables false

/-- what a chunk holds ahead of its checksum -/
def conL (i n : Int) (d : List UInt8) : List UInt8 := Lib.itoa i ++ [47] ++ Lib.itoa n ++ [58] ++ d
def chunkL (i n : Int) (d : List UInt8) : List UInt8 := conL i n d ++ [35] ++ Lib.itoa (cksum (conL i n d))
/-- how many parts of this size a string has -/
def partsN (len size : Nat) : Nat := 1 + (len - 1) / size
/-- part i -/
def partL (s : List UInt8) (size i : Nat) : List UInt8 := (s.drop (i * size)).take size
def chunkB (s : List UInt8) (size t i : Nat) : ByteArray := ⟨(chunkL i t (partL s size i)).toArray⟩
/-- the chunks of a string -/
def encCh (s : List UInt8) (size : Int) : List ByteArray :=
  if size < 1 ∨ 40 < partsN s.length size.toNat then [] else (List.range (partsN s.length size.toNat)).map (chunkB s size.toNat (partsN s.length size.toNat))
theorem encCh_len (s : List UInt8) (size : Int) : (encCh s size).length ≤ 4194304 := by
  unfold encCh
  split
  · simp
  · simp; omega
theorem encCh_none {s : List UInt8} {size : Int} (h : size < 1 ∨ 40 < partsN s.length size.toNat) : encCh s size = [] := if_pos h
theorem encCh_some {s : List UInt8} {size : Nat} (h0 : 1 ≤ size) (h : partsN s.length size ≤ 40) : encCh s size = (List.range (partsN s.length size)).map (chunkB s size (partsN s.length size)) := by
  unfold encCh
  rw [if_neg (by simp only [Int.toNat_natCast]; omega)]
  simp only [Int.toNat_natCast]
theorem conL_len {i n : Int} {d : List UInt8} (h0 : 0 ≤ i) (h1 : i ≤ 1000000000) (h2 : 0 ≤ n) (h3 : n ≤ 1000000000) : (conL i n d).length ≤ d.length + 44 := by
  have l1 := itoa_le i (by omega) (by omega)
  have l2 := itoa_le n (by omega) (by omega)
  unfold conL
  simp; omega
theorem chunkL_len {i n : Int} {d : List UInt8} (h0 : 0 ≤ i) (h1 : i ≤ 1000000000) (h2 : 0 ≤ n) (h3 : n ≤ 1000000000) : (chunkL i n d).length ≤ d.length + 66 := by
  have l1 := conL_len (d := d) h0 h1 h2 h3
  have hc := cksum_in (conL i n d)
  have l2 := itoa_le (cksum (conL i n d)) (by omega) (by omega)
  unfold chunkL
  simp; omega
theorem partsN_pos (len size : Nat) : 1 ≤ partsN len size := Nat.le_add_right _ _
theorem partsN_big {len size : Nat} (h : len ≤ size) (h1 : 1 ≤ size) : partsN len size = 1 := by
  unfold partsN
  rw [Nat.div_eq_of_lt (by omega)]
theorem partsN_eq {len size : Nat} (h : size < len) (h1 : 1 ≤ size) : (len + size - 1) / size = partsN len size := by
  unfold partsN
  rw [show len + size - 1 = (len - 1) + size by omega, Nat.add_div_right _ (by omega)]
  omega
/-- where part i begins -/
theorem part_at {len size i : Nat} (h1 : 1 ≤ size) (h : i < partsN len size) : i * size ≤ len := by
  unfold partsN at h
  have h2 : i ≤ (len - 1) / size := by omega
  have h3 := Nat.mul_le_mul_right size h2
  have h4 := Nat.div_mul_le_self (len - 1) size
  omega
theorem conStr (a b d : List UInt8) : ((((⟨a.toArray⟩ : ByteArray) ++ (⟨[47].toArray⟩ : ByteArray)) ++ (⟨b.toArray⟩ : ByteArray)) ++ (⟨[58].toArray⟩ : ByteArray)) ++ (⟨d.toArray⟩ : ByteArray) = ⟨(a ++ [47] ++ b ++ [58] ++ d).toArray⟩ := by
  simp only [ByteArray.mk_append_mk]
end Go.Proofs.YtibpajlfcknegaaDoor.kit
