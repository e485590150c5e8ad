/-
  Chapter 1, numbers of a fixed width: what spec's and impl's EncodeFixed and DecodeFixed return, for every argument.
-/
import Derived.Test.YtbimjllblaaddaaDoorKit
namespace Go.Proofs.YtbimjllblaaddaaDoor.kit
open Go.ChangeShapes Go.WideShapes Go.ChangeAt Go.RowKit
set_option linter.unusedVariables false

/-- n in k bytes, most significant first -/
def be : Nat → Nat → List UInt8
  | 0, _ => []
  | k + 1, n => UInt8.ofNat (n / 256 ^ k) :: be k n
theorem be_length (k n : Nat) : (be k n).length = k := by
  induction k with
  | zero => rfl
  | succ k ih => simp [be, ih]
theorem ofNat_mod (m : Nat) : UInt8.ofNat (m % 256) = UInt8.ofNat m := by
  apply UInt8.toNat.inj
  simp
/-- EncodeFixed as the document has it -/
def encF (n wd : Int) : List UInt8 := if 1 ≤ wd ∧ wd ≤ 7 ∧ 0 ≤ n ∧ n.toNat < 256 ^ wd.toNat then be wd.toNat n.toNat else []
theorem encF_size (n wd : Int) : (encF n wd).length ≤ 7 := by
  unfold encF
  split
  · rw [be_length]; omega
  · simp
theorem encF_in {n wd : Nat} (h1 : 1 ≤ wd) (h2 : wd ≤ 7) (h : n / 256 ^ wd = 0) : encF n wd = be wd n := by
  unfold encF
  have h3 : n < 256 ^ wd := by
    rcases Nat.div_eq_zero_iff.1 h with h | h
    · have := Nat.pow_pos (n := wd) (show 0 < 256 by omega); omega
    · exact h
  rw [if_pos ⟨by omega, by omega, by omega, by simpa using h3⟩]; simp
theorem encF_big {n wd : Nat} (h : 0 < n / 256 ^ wd) : encF n wd = [] := by
  unfold encF
  rw [if_neg]
  intro ⟨_, _, _, h4⟩
  simp only [Int.toNat_natCast] at h4
  rw [Nat.div_eq_of_lt h4] at h
  omega
theorem encF_wd {n wd : Int} (h : wd < 1 ∨ 7 < wd) : encF n wd = [] := by
  unfold encF
  rw [if_neg]; omega
theorem encF_neg {n wd : Int} (h : n < 0) : encF n wd = [] := by
  unfold encF
  rw [if_neg]; omega

theorem in_true (x a b : Int) (w : World) (h1 : a ≤ x) (h2 : x ≤ b) : Calls Tryd.prog 26 #[.int .i64 x, .int .i64 a, .int .i64 b] w fun e w' => e = .returned (.bool true) ∧ w = w' := by
  go_enter Tryd.func26, Tryd.ntmps26
  go_wp2
  go_ret
  exact ⟨rfl, rfl⟩
theorem in_false (x a b : Int) (w : World) (h : x < a ∨ b < x) : Calls Tryd.prog 26 #[.int .i64 x, .int .i64 a, .int .i64 b] w fun e w' => e = .returned (.bool false) ∧ w = w' := by
  by_cases h1 : a ≤ x
  · have h2 : b < x := by omega
    clear h
    have g1 : decide (x ≤ b) = false := by simp; omega
    go_enter Tryd.func26, Tryd.ntmps26
    go_wp2
    go_ret
    exact ⟨rfl, rfl⟩
  · have h2 : x < a := by omega
    clear h h1
    have g1 : decide (a ≤ x) = false := by simp; omega
    go_enter Tryd.func26, Tryd.ntmps26
    go_wp2
    go_ret
    exact ⟨rfl, rfl⟩

theorem specEncodeFixed_in (n wd : Nat) (w : World) (hn : n ≤ 9223372036854775807) (h1 : 1 ≤ wd) (h2 : wd ≤ 7) :
    Calls Tryd.prog 14 #[.int .i64 n, .int .i64 wd] w fun e w' => e = .returned (str (encF n wd)) ∧ Below w.heap.size w w' := by
  have g1 : decide ((n : Int) < 0) = false := by simp
  have c1 := Lib.hid (in_true wd 1 7 w (by omega) (by omega))
  go_enter Tryd.func14, Tryd.ntmps14
  go_wp2_with (go_at_call 26; refine (c1.out).mono ?_; rintro e w' ⟨rfl, rfl⟩)
  go_loopw [0, 5, 6] (fun a o i wr => ∃ k m : Nat, k ≤ wd ∧ i = .int .i64 k ∧ a = .int .i64 m ∧ m ≤ n ∧ Hid (m = n / 256 ^ k) ∧ o = str (be k n) ∧ Below w.heap.size w wr) (fun _ _ i _ => wd - (intOf i).toNat)
  case atStart => exact ⟨0, n, Nat.zero_le _, rfl, rfl, Nat.le_refl _, Lib.hid (by simp), rfl, Below.refl _ _⟩
  case round =>
    obtain ⟨k, m, hk, rfl, rfl, hmn, hm, rfl, hb⟩ := hrel
    by_cases hlt : k < wd
    · have hcv : ∀ x : Int, (convert 22 9 (.slice (some ⟨wr.heap.size, 0, none⟩) 1 1)).run Tryd.prog (wr.alloc (.cells #[.int .u8 x] 5)) = .ok (.string ⟨[UInt8.ofNat x.toNat].toArray⟩) (wr.alloc (.cells #[.int .u8 x] 5)) := fun x => conv1 Tryd.underlying22 Tryd.underlying5 Tryd.underlying9 wr x
      have hl : (be k n).length ≤ 7 := by rw [be_length]; omega
      go_wp2
      go_roundw
      case rel =>
        refine ⟨k + 1, m / 256, by omega, by go_num, by go_num, by have := Nat.div_le_self m 256; omega, Lib.hid ?_, ?_, hb.alloc hb.size _⟩
        · rw [hm.out, Nat.div_div_eq_div_mul, Nat.pow_succ]
        · rw [ByteArray.mk_append_mk]
          simp [be, str]
          rw [← hm.out, ofNat_mod]
      case measure => simp [intOf]; omega
    · obtain rfl : k = wd := by omega
      by_cases h0 : 0 < m
      · have he : Hid (encF n k = []) := Lib.hid (encF_big (by rw [← hm.out]; exact h0))
        go_wp2
        go_ret
        exact ⟨by rw [he.out]; rfl, hb⟩
      · have he : Hid (encF n k = be k n) := Lib.hid (encF_in h1 h2 (by rw [← hm.out]; omega))
        go_wp2
        go_ret
        exact ⟨by rw [he.out]; rfl, hb⟩
theorem specEncodeFixed (n wd : Int) (w : World) (hn : n ≤ 9223372036854775807) :
    Calls Tryd.prog 14 #[.int .i64 n, .int .i64 wd] w fun e w' => e = .returned (str (encF n wd)) ∧ Below w.heap.size w w' := by
  by_cases h : 1 ≤ wd ∧ wd ≤ 7
  · obtain ⟨h1, h2⟩ := h
    by_cases h0 : 0 ≤ n
    · obtain ⟨a, rfl⟩ := Int.eq_ofNat_of_zero_le h0
      obtain ⟨b, rfl⟩ := Int.eq_ofNat_of_zero_le (show 0 ≤ wd by omega)
      exact specEncodeFixed_in a b w (by omega) (by omega) (by omega)
    · have g1 : decide (n < 0) = true := by simp; omega
      have c1 := Lib.hid (in_true wd 1 7 w h1 h2)
      have he := Lib.hid (encF_neg (n := n) (wd := wd) (by omega))
      go_enter Tryd.func14, Tryd.ntmps14
      go_wp2_with (go_at_call 26; refine (c1.out).mono ?_; rintro e w' ⟨rfl, rfl⟩)
      go_ret
      exact ⟨by rw [he.out]; rfl, Below.refl _ _⟩
  · have c1 := Lib.hid (in_false wd 1 7 w (by omega))
    have he := Lib.hid (encF_wd (n := n) (wd := wd) (by omega))
    go_enter Tryd.func14, Tryd.ntmps14
    go_wp2_with (go_at_call 26; refine (c1.out).mono ?_; rintro e w' ⟨rfl, rfl⟩)
    go_ret
    exact ⟨by rw [he.out]; rfl, Below.refl _ _⟩

theorem width_true (x : Int) (w : World) (h1 : 1 ≤ x) (h2 : x ≤ 7) : Calls Tryd.prog 25 #[.int .i64 x] w fun e w' => e = .returned (.bool true) ∧ w = w' := by
  go_enter Tryd.func25, Tryd.ntmps25
  go_wp2
  go_ret
  exact ⟨rfl, rfl⟩
theorem width_false (x : Int) (w : World) (h : x < 1 ∨ 7 < x) : Calls Tryd.prog 25 #[.int .i64 x] w fun e w' => e = .returned (.bool false) ∧ w = w' := by
  by_cases h1 : 1 ≤ x
  · have h2 : 7 < x := by omega
    clear h
    have g1 : decide (x ≤ 7) = false := by simp; omega
    go_enter Tryd.func25, Tryd.ntmps25
    go_wp2
    go_ret
    exact ⟨rfl, rfl⟩
  · have h2 : x < 1 := by omega
    clear h h1
    have g1 : decide (1 ≤ x) = false := by simp; omega
    go_enter Tryd.func25, Tryd.ntmps25
    go_wp2
    go_ret
    exact ⟨rfl, rfl⟩

theorem infoByte : (Tryd.prog.info? 5).map (fun i => (i.zero, i.size, i.bytes)) = some (some (.int .u8 0), 1, 1) := by kernel_rfl
/-- the row while it is filled from the end -/
def encRow (n wd k : Nat) (j : Nat) : Int := if wd - k ≤ j then ((n / 256 ^ (wd - 1 - j) % 256 : Nat) : Int) else 0
theorem encRow_zero (n wd j : Nat) (h : j < wd) : encRow n wd 0 j = 0 := by unfold encRow; rw [if_neg (by omega)]
theorem encRow_succ (n wd k j : Nat) (hk : k < wd) (hj : j < wd) : encRow n wd (k + 1) j = if j = wd - 1 - k then ((n / 256 ^ k % 256 : Nat) : Int) else encRow n wd k j := by
  unfold encRow
  by_cases h : j = wd - 1 - k
  · rw [if_pos h, if_pos (by omega)]
    have : wd - 1 - j = k := by omega
    rw [this]
  · rw [if_neg h]
    by_cases h2 : wd - k ≤ j
    · rw [if_pos h2, if_pos (by omega)]
    · rw [if_neg h2, if_neg (by omega)]
theorem be_row (n : Nat) : ∀ wd : Nat, (List.range wd).map (fun j => UInt8.ofNat (encRow n wd wd j).toNat) = be wd n := by
  intro wd
  have h : ∀ j, UInt8.ofNat (encRow n wd wd j).toNat = UInt8.ofNat (n / 256 ^ (wd - 1 - j)) := by
    intro j; unfold encRow; rw [if_pos (by omega), Int.toNat_natCast, ofNat_mod]
  simp only [h]
  clear h
  induction wd with
  | zero => rfl
  | succ wd ih =>
    rw [List.range_succ_eq_map, List.map_cons, List.map_map, be]
    congr 1
    rw [← ih]
    apply List.map_congr_left
    intro j _
    simp only [Function.comp]
    congr 3
    omega
theorem pow256 (k : Nat) : (2 : Int) ^ (8 * k) = ((256 ^ k : Nat) : Int) := by
  rw [Int.pow_mul]; simp
theorem implEncodeFixed_in (n wd : Nat) (w : World) (hn : n ≤ 9223372036854775807) (h1 : 1 ≤ wd) (h2 : wd ≤ 7) :
    Calls Tryd.prog 12 #[.int .i64 n, .int .i64 wd] w fun e w' => e = .returned (str (encF n wd)) ∧ Below w.heap.size w w' := by
  have g1 : decide ((n : Int) < 0) = false := by simp
  have c1 := Lib.hid (width_true wd w (by omega) (by omega))
  by_cases h0 : 0 < n / 256 ^ wd
  · have he := Lib.hid (encF_big h0)
    have g2 : ((n : Int) / 2 ^ (8 * wd) != 0) = true := by rw [pow256, ← Int.natCast_ediv]; generalize n / 256 ^ wd = q at h0; simp; omega
    clear h0
    go_enter Tryd.func12, Tryd.ntmps12
    go_wp2_with (go_at_call 25; refine (c1.out).mono ?_; rintro e w' ⟨rfl, rfl⟩)
    go_ret
    exact ⟨by rw [he.out]; rfl, Below.refl _ _⟩
  · have he := Lib.hid (encF_in (n := n) h1 h2 (Nat.eq_zero_of_not_pos h0))
    have g2 : ((n : Int) / 2 ^ (8 * wd) != 0) = false := by rw [pow256, ← Int.natCast_ediv]; generalize n / 256 ^ wd = q at h0; simp; omega
    clear h0
    have hmk := fun W => run_make_row' (P := Tryd.prog) 22 5 (.int .u8 0) 1 Tryd.underlying22 infoByte rfl .i64 .i64 wd (by omega) (by omega) W
    go_enter Tryd.func12, Tryd.ntmps12
    go_wp2_with (go_at_call 25; refine (c1.out).mono ?_; rintro e w' ⟨rfl, rfl⟩)
    clear hmk
    go_loopw [6, 25] (fun i c wr => ∃ k : Nat, k ≤ wd ∧ c = .int .i64 k ∧ wr.rowIs w.heap.size 5 wd (fun j => .int .u8 (encRow n wd k j)) ∧ Below w.heap.size w wr) (fun _ c _ => wd - (intOf c).toNat)
    case atStart => exact ⟨0, Nat.zero_le _, rfl, (World.rowIs_made w (.int .u8 0) wd _).congr (fun j hj => by rw [encRow_zero n wd j hj]), (Below.refl _ _).alloc (Nat.le_refl _) _⟩
    case round =>
      obtain ⟨k, hk, rfl, hr, hb⟩ := hrel
      by_cases hlt : k < wd
      · obtain ⟨v0, hv0⟩ : ∃ v, wr.cell? ⟨w.heap.size, wd - 1 - k, none⟩ = some v := ⟨_, hr.cell (by omega)⟩
        have hf := hr.frozen (wd - 1 - k)
        go_wp2
        go_roundw
        case rel =>
          refine ⟨k + 1, by omega, by go_num, (hr.set (wd - 1 - k) _).congr (fun j hj => ?_), hb.setCell (Nat.le_refl _) _⟩
          show (if j = wd - 1 - k then _ else _) = _
          rw [encRow_succ n wd k j hlt hj]
          split
          · rw [pow256]; simp
          · rfl
        case measure => simp [intOf]; omega
      · obtain rfl : k = wd := by omega
        have hcv := conv_row (P := Tryd.prog) (dst := 9) (cap := k) Tryd.underlying22 Tryd.underlying5 Tryd.underlying9 hr (Nat.le_refl _)
        rw [be_row] at hcv
        go_wp2
        go_ret
        exact ⟨by rw [he.out]; rfl, hb⟩
theorem implEncodeFixed (n wd : Int) (w : World) (hn : n ≤ 9223372036854775807) :
    Calls Tryd.prog 12 #[.int .i64 n, .int .i64 wd] w fun e w' => e = .returned (str (encF n wd)) ∧ Below w.heap.size w w' := by
  by_cases h : 1 ≤ wd ∧ wd ≤ 7
  · obtain ⟨h1, h2⟩ := h
    by_cases h0 : 0 ≤ n
    · obtain ⟨a, rfl⟩ := Int.eq_ofNat_of_zero_le h0
      obtain ⟨b, rfl⟩ := Int.eq_ofNat_of_zero_le (show 0 ≤ wd by omega)
      exact implEncodeFixed_in a b w (by omega) (by omega) (by omega)
    · have g1 : decide (n < 0) = true := by simp; omega
      have c1 := Lib.hid (width_true wd w h1 h2)
      have he := Lib.hid (encF_neg (n := n) (wd := wd) (by omega))
      go_enter Tryd.func12, Tryd.ntmps12
      go_wp2_with (go_at_call 25; refine (c1.out).mono ?_; rintro e w' ⟨rfl, rfl⟩)
      go_ret
      exact ⟨by rw [he.out]; rfl, Below.refl _ _⟩
  · have c1 := Lib.hid (width_false wd w (by omega))
    have he := Lib.hid (encF_wd (n := n) (wd := wd) (by omega))
    go_enter Tryd.func12, Tryd.ntmps12
    go_wp2_with (go_at_call 25; refine (c1.out).mono ?_; rintro e w' ⟨rfl, rfl⟩)
    go_ret
    exact ⟨by rw [he.out]; rfl, Below.refl _ _⟩

/-- the number that bytes stand for, most significant first -/
def fromBe (l : List UInt8) : Nat := l.foldl (fun a b => a * 256 + b.toNat) 0
theorem fromBe_snoc (l : List UInt8) (b : UInt8) : fromBe (l ++ [b]) = fromBe l * 256 + b.toNat := by simp [fromBe]
theorem take_snoc (s : ByteArray) (k : Nat) (h : k < s.size) : s.data.toList.take (k + 1) = s.data.toList.take k ++ [s[k]] := by
  rw [List.take_succ_eq_append_getElem (by simpa using h)]; rfl
theorem bytes_rec {P : List UInt8 → Prop} (h0 : P []) (h1 : ∀ l b, P l → P (l ++ [b])) (l : List UInt8) : P l := by
  have h : ∀ m : List UInt8, P m.reverse := by
    intro m
    induction m with
    | nil => exact h0
    | cons b m ih => rw [List.reverse_cons]; exact h1 _ _ ih
  simpa using h l.reverse
theorem fromBe_lt (l : List UInt8) : fromBe l < 256 ^ l.length := by
  induction l using bytes_rec with
  | h0 => simp [fromBe]
  | h1 l b ih =>
    rw [fromBe_snoc, List.length_append, List.length_singleton, Nat.pow_succ]
    have := b.toNat_lt
    omega
theorem pow256_le {k : Nat} (h : k ≤ 6) : 256 ^ k ≤ 281474976710656 := Nat.pow_le_pow_right (show 256 > 0 by omega) h
/-- DecodeFixed's two results -/
def decFn (l : List UInt8) (wd : Int) : Int := if 1 ≤ wd ∧ wd ≤ 7 ∧ wd.toNat ≤ l.length then (fromBe (l.take wd.toNat) : Int) else 0
def decFb (l : List UInt8) (wd : Int) : Bool := decide (1 ≤ wd ∧ wd ≤ 7 ∧ wd.toNat ≤ l.length)
theorem decF_in {l : List UInt8} {wd : Nat} (h1 : 1 ≤ wd) (h2 : wd ≤ 7) (h3 : wd ≤ l.length) : decFn l wd = fromBe (l.take wd) ∧ decFb l wd = true := by
  have h : 1 ≤ (wd : Int) ∧ (wd : Int) ≤ 7 ∧ (wd : Int).toNat ≤ l.length := by omega
  unfold decFn decFb
  rw [if_pos h]
  exact ⟨by simp, by simpa using h⟩
theorem decF_out {l : List UInt8} {wd : Int} (h : ¬ (1 ≤ wd ∧ wd ≤ 7 ∧ wd.toNat ≤ l.length)) : decFn l wd = 0 ∧ decFb l wd = false := by
  unfold decFn decFb
  rw [if_neg h]
  exact ⟨rfl, by simpa using h⟩
theorem or_byte (m b : Nat) (h : b < 256) : (m * 256) ||| b = m * 256 + b := by
  have := Nat.shiftLeft_add_eq_or_of_lt (a := m) (b := b) (i := 8) (by omega)
  rw [Nat.shiftLeft_eq, show (2 : Nat) ^ 8 = 256 from rfl] at this
  omega
theorem ofInt_i64 (a : Nat) (ha : a < 9223372036854775808) : (BitVec.ofInt 64 (a : Int)).toNat = a := by
  rw [BitVec.ofInt_natCast, BitVec.toNat_ofNat]; exact Nat.mod_eq_of_lt (by omega)
theorem i64_or_nat (a b : Nat) (ha : a < 9223372036854775808) (hb : b < 9223372036854775808) : bits .or .i64 (a : Int) (b : Int) = ((a ||| b : Nat) : Int) := by
  have hx : a ||| b < 2 ^ 63 := Nat.or_lt_two_pow (by omega) (by omega)
  show IntKind.i64.wrap ((BitVec.ofInt 64 (a : Int) ||| BitVec.ofInt 64 (b : Int)).toNat : Int) = _
  rw [BitVec.toNat_or, ofInt_i64 a ha, ofInt_i64 b hb, IntKind.wrap_i64]
  omega
theorem i64_and_nat (a b : Nat) (ha : a < 9223372036854775808) (hb : b < 9223372036854775808) : bits .and .i64 (a : Int) (b : Int) = ((a &&& b : Nat) : Int) := by
  have hx : a &&& b < 2 ^ 63 := Nat.and_lt_two_pow _ (by omega)
  show IntKind.i64.wrap ((BitVec.ofInt 64 (a : Int) &&& BitVec.ofInt 64 (b : Int)).toNat : Int) = _
  rw [BitVec.toNat_and, ofInt_i64 a ha, ofInt_i64 b hb, IntKind.wrap_i64]
  omega
theorem implDecodeFixed_in (s : ByteArray) (wd : Nat) (w : World) (hs : s.size ≤ maxLen) (h1 : 1 ≤ wd) (h2 : wd ≤ 7) (h3 : wd ≤ s.size) :
    Calls Tryd.prog 13 #[.string s, .int .i64 wd] w fun e w' => e = .returned (.tuple #[.int .i64 (fromBe (s.data.toList.take wd)), .bool true]) ∧ w = w' := by
  unfold maxLen at hs
  have g1 : decide (s.size < wd) = false := by simp; omega
  have c1 := Lib.hid (width_true wd w (by omega) (by omega))
  go_enter Tryd.func13, Tryd.ntmps13
  go_wp2_with (go_at_call 25; refine (c1.out).mono ?_; rintro e w' ⟨rfl, rfl⟩)
  go_loop [6, 7, 18] (fun n i c => ∃ k m : Nat, k ≤ wd ∧ c = .int .i64 k ∧ n = .int .i64 m ∧ Hid (m = fromBe (s.data.toList.take k))) (fun _ _ c => wd - (intOf c).toNat)
  case atStart => exact ⟨0, 0, Nat.zero_le _, rfl, rfl, Lib.hid (by simp [fromBe])⟩
  case round =>
    obtain ⟨k, m, hk, rfl, rfl, hm⟩ := hrel
    by_cases hlt : k < wd
    · have hm8 : m < 281474976710656 := by
        have h := fromBe_lt (s.data.toList.take k)
        rw [← hm.out] at h
        have h' : (s.data.toList.take k).length ≤ k := List.length_take_le _ _
        have := Nat.pow_le_pow_right (show 256 > 0 by omega) h'
        have := pow256_le (k := k) (by omega)
        omega
      have hbk : s[k].toNat < 256 := s[k].toNat_lt
      go_wp2
      go_round
      case rel =>
        refine ⟨k + 1, m * 256 + s[k].toNat, by omega, by go_num, ?_, Lib.hid (by rw [take_snoc s k (by omega), fromBe_snoc, ← hm.out])⟩
        rw [show (m : Int) * 256 = ((m * 256 : Nat) : Int) by omega, i64_or_nat _ _ (by omega) (by omega), or_byte _ _ hbk]
      case measure => simp [intOf]; omega
    · obtain rfl : k = wd := by omega
      go_wp2
      go_ret2
      exact ⟨by rw [← hm.out]; rfl, rfl⟩
theorem implDecodeFixed (s : ByteArray) (wd : Int) (w : World) (hs : s.size ≤ maxLen) :
    Calls Tryd.prog 13 #[.string s, .int .i64 wd] w fun e w' => e = .returned (.tuple #[.int .i64 (decFn s.data.toList wd), .bool (decFb s.data.toList wd)]) ∧ w = w' := by
  have hsz : s.data.toList.length = s.size := by rw [Array.length_toList]; rfl
  by_cases h : 1 ≤ wd ∧ wd ≤ 7
  · obtain ⟨h1, h2⟩ := h
    obtain ⟨b, rfl⟩ := Int.eq_ofNat_of_zero_le (show 0 ≤ wd by omega)
    by_cases h3 : b ≤ s.size
    · have hd := decF_in (l := s.data.toList) (wd := b) (by omega) (by omega) (by omega)
      rw [hd.1, hd.2]
      exact implDecodeFixed_in s b w hs (by omega) (by omega) h3
    · have hd := decF_out (l := s.data.toList) (wd := b) (by omega)
      rw [hd.1, hd.2]
      clear hd hsz
      unfold maxLen at hs
      have g1 : decide (s.size < b) = true := by simp; omega
      have c1 := Lib.hid (width_true b w (by omega) (by omega))
      go_enter Tryd.func13, Tryd.ntmps13
      go_wp2_with (go_at_call 25; refine (c1.out).mono ?_; rintro e w' ⟨rfl, rfl⟩)
      go_ret2
      exact ⟨rfl, rfl⟩
  · have hd := decF_out (l := s.data.toList) (wd := wd) (by omega)
    rw [hd.1, hd.2]
    clear hd hsz
    have c1 := Lib.hid (width_false wd w (by omega))
    go_enter Tryd.func13, Tryd.ntmps13
    go_wp2_with (go_at_call 25; refine (c1.out).mono ?_; rintro e w' ⟨rfl, rfl⟩)
    go_ret2
    exact ⟨rfl, rfl⟩
end Go.Proofs.YtbimjllblaaddaaDoor.kit
