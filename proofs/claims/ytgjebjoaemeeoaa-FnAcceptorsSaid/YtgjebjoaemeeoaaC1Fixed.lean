/-
  Chapter 1, numbers of a fixed width: what spec's and impl's EncodeFixed and DecodeFixed return, for every argument.
-/
import Derived.Test.YtgjebjoaemeeoaaKit
namespace Go.Proofs.Ytgjebjoaemeeoaa.kit
open Go.ChangeShapes Go.WideShapes Go.ChangeAt Go.RowKit
set_option linter.unusedVariables false

/-- n in k bytes, most significant first -/
def be : Nat → Nat → List UInt8
  | 0, _ => []
  | k + 1, n => UInt8.ofNat (n / 256 ^ k) :: be k n
theorem be_length (k n : Nat) : (be k n).length = k := by
  induction k with
  | zero => rfl
  | succ k ih => simp [be, ih]
theorem ofNat_mod (m : Nat) : UInt8.ofNat (m % 256) = UInt8.ofNat m := by
  apply UInt8.toNat.inj
  simp
/-- EncodeFixed as the document has it -/
def encF (n wd : Int) : List UInt8 := if 1 ≤ wd ∧ wd ≤ 7 ∧ 0 ≤ n ∧ n.toNat < 256 ^ wd.toNat then be wd.toNat n.toNat else []
theorem encF_size (n wd : Int) : (encF n wd).length ≤ 7 := by
  unfold encF
  split
  · rw [be_length]; omega
  · simp
theorem encF_in {n wd : Nat} (h1 : 1 ≤ wd) (h2 : wd ≤ 7) (h : n / 256 ^ wd = 0) : encF n wd = be wd n := by
  unfold encF
  have h3 : n < 256 ^ wd := by
    rcases Nat.div_eq_zero_iff.1 h with h | h
    · have := Nat.pow_pos (n := wd) (show 0 < 256 by omega); omega
    · exact h
  rw [if_pos ⟨by omega, by omega, by omega, by simpa using h3⟩]; simp
theorem encF_big {n wd : Nat} (h : 0 < n / 256 ^ wd) : encF n wd = [] := by
  unfold encF
  rw [if_neg]
  intro ⟨_, _, _, h4⟩
  simp only [Int.toNat_natCast] at h4
  rw [Nat.div_eq_of_lt h4] at h
  omega
theorem encF_wd {n wd : Int} (h : wd < 1 ∨ 7 < wd) : encF n wd = [] := by
  unfold encF
  rw [if_neg]; omega
theorem encF_neg {n wd : Int} (h : n < 0) : encF n wd = [] := by
  unfold encF
  rw [if_neg]; omega

theorem in_true (x a b : Int) (w : World) (h1 : a ≤ x) (h2 : x ≤ b) : Calls Try.prog 35 #[.int .i64 x, .int .i64 a, .int .i64 b] w fun e w' => e = .returned (.bool true) ∧ w = w' := by
  go_enter Try.func35, Try.ntmps35
  go_wp2
  go_ret
  exact ⟨rfl, rfl⟩
theorem in_false (x a b : Int) (w : World) (h : x < a ∨ b < x) : Calls Try.prog 35 #[.int .i64 x, .int .i64 a, .int .i64 b] w fun e w' => e = .returned (.bool false) ∧ w = w' := by
  by_cases h1 : a ≤ x
  · have h2 : b < x := by omega
    clear h
    have g1 : decide (x ≤ b) = false := by simp; omega
    go_enter Try.func35, Try.ntmps35
    go_wp2
    go_ret
    exact ⟨rfl, rfl⟩
  · have h2 : x < a := by omega
    clear h h1
    have g1 : decide (a ≤ x) = false := by simp; omega
    go_enter Try.func35, Try.ntmps35
    go_wp2
    go_ret
    exact ⟨rfl, rfl⟩




/-- the number that bytes stand for, most significant first -/
def fromBe (l : List UInt8) : Nat := l.foldl (fun a b => a * 256 + b.toNat) 0
theorem fromBe_snoc (l : List UInt8) (b : UInt8) : fromBe (l ++ [b]) = fromBe l * 256 + b.toNat := by simp [fromBe]
theorem take_snoc (s : ByteArray) (k : Nat) (h : k < s.size) : s.data.toList.take (k + 1) = s.data.toList.take k ++ [s[k]] := by
  rw [List.take_succ_eq_append_getElem (by simpa using h)]; rfl
theorem bytes_rec {P : List UInt8 → Prop} (h0 : P []) (h1 : ∀ l b, P l → P (l ++ [b])) (l : List UInt8) : P l := by
  have h : ∀ m : List UInt8, P m.reverse := by
    intro m
    induction m with
    | nil => exact h0
    | cons b m ih => rw [List.reverse_cons]; exact h1 _ _ ih
  simpa using h l.reverse
theorem fromBe_lt (l : List UInt8) : fromBe l < 256 ^ l.length := by
  induction l using bytes_rec with
  | h0 => simp [fromBe]
  | h1 l b ih =>
    rw [fromBe_snoc, List.length_append, List.length_singleton, Nat.pow_succ]
    have := b.toNat_lt
    omega
theorem pow256_le {k : Nat} (h : k ≤ 6) : 256 ^ k ≤ 281474976710656 := Nat.pow_le_pow_right (show 256 > 0 by omega) h
/-- DecodeFixed's two results -/
def decFn (l : List UInt8) (wd : Int) : Int := if 1 ≤ wd ∧ wd ≤ 7 ∧ wd.toNat ≤ l.length then (fromBe (l.take wd.toNat) : Int) else 0
def decFb (l : List UInt8) (wd : Int) : Bool := decide (1 ≤ wd ∧ wd ≤ 7 ∧ wd.toNat ≤ l.length)
theorem decF_in {l : List UInt8} {wd : Nat} (h1 : 1 ≤ wd) (h2 : wd ≤ 7) (h3 : wd ≤ l.length) : decFn l wd = fromBe (l.take wd) ∧ decFb l wd = true := by
  have h : 1 ≤ (wd : Int) ∧ (wd : Int) ≤ 7 ∧ (wd : Int).toNat ≤ l.length := by omega
  unfold decFn decFb
  rw [if_pos h]
  exact ⟨by simp, by simpa using h⟩
theorem decF_out {l : List UInt8} {wd : Int} (h : ¬ (1 ≤ wd ∧ wd ≤ 7 ∧ wd.toNat ≤ l.length)) : decFn l wd = 0 ∧ decFb l wd = false := by
  unfold decFn decFb
  rw [if_neg h]
  exact ⟨rfl, by simpa using h⟩
theorem or_byte (m b : Nat) (h : b < 256) : (m * 256) ||| b = m * 256 + b := by
  have := Nat.shiftLeft_add_eq_or_of_lt (a := m) (b := b) (i := 8) (by omega)
  rw [Nat.shiftLeft_eq, show (2 : Nat) ^ 8 = 256 from rfl] at this
  omega
theorem ofInt_i64 (a : Nat) (ha : a < 9223372036854775808) : (BitVec.ofInt 64 (a : Int)).toNat = a := by
  rw [BitVec.ofInt_natCast, BitVec.toNat_ofNat]; exact Nat.mod_eq_of_lt (by omega)
theorem i64_or_nat (a b : Nat) (ha : a < 9223372036854775808) (hb : b < 9223372036854775808) : bits .or .i64 (a : Int) (b : Int) = ((a ||| b : Nat) : Int) := by
  have hx : a ||| b < 2 ^ 63 := Nat.or_lt_two_pow (by omega) (by omega)
  show IntKind.i64.wrap ((BitVec.ofInt 64 (a : Int) ||| BitVec.ofInt 64 (b : Int)).toNat : Int) = _
  rw [BitVec.toNat_or, ofInt_i64 a ha, ofInt_i64 b hb, IntKind.wrap_i64]
  omega
theorem i64_and_nat (a b : Nat) (ha : a < 9223372036854775808) (hb : b < 9223372036854775808) : bits .and .i64 (a : Int) (b : Int) = ((a &&& b : Nat) : Int) := by
  have hx : a &&& b < 2 ^ 63 := Nat.and_lt_two_pow _ (by omega)
  show IntKind.i64.wrap ((BitVec.ofInt 64 (a : Int) &&& BitVec.ofInt 64 (b : Int)).toNat : Int) = _
  rw [BitVec.toNat_and, ofInt_i64 a ha, ofInt_i64 b hb, IntKind.wrap_i64]
  omega
end Go.Proofs.Ytgjebjoaemeeoaa.kit
