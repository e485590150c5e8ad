/-
  Chapter 1, hexadecimal digits: what spec's DecodeHex returns, for every string; the digits' values.
-/
import Derived.Test.YtbimjllblaaddaaC1Hex
namespace Go.Proofs.Ytbimjllblaaddaa.kit
open Go.ChangeShapes Go.WideShapes Go.ChangeAt Go.RowKit
set_option linter.unusedVariables false

/-- a digit's value, or 16 -/
def hval (n : Nat) : Nat := if 48 ≤ n ∧ n ≤ 57 then n - 48 else if 97 ≤ n ∧ n ≤ 102 then n - 87 else 16
/-- .. as Go tells it: -1 for none -/
def hvi (n : Nat) : Int := if hval n < 16 then (hval n : Int) else -1
theorem hexc_hval : ∀ k : Nat, k < 16 → hval (hexc k).toNat = k := by decide +kernel
theorem hval_hexc (b : UInt8) (h : hval b.toNat < 16) : hexc (hval b.toNat) = b := by
  have h1 : ∀ n : Nat, n < 256 → hval n < 16 → hexc (hval n) = UInt8.ofNat n := by decide +kernel
  have := h1 b.toNat b.toNat_lt h
  rw [this, UInt8.ofNat_toNat]
theorem hexc_ne (b : UInt8) {k : Nat} (hk : k < 16) (h : hval b.toNat ≠ k) : hexc k ≠ b := by
  intro e
  subst e
  exact h (hexc_hval k hk)
theorem hval_le (n : Nat) : hval n ≤ 16 := by unfold hval; split <;> (try split) <;> omega
theorem hval_big {n : Nat} (h : 128 ≤ n) : hval n = 16 := by unfold hval; rw [if_neg (by omega), if_neg (by omega)]
def good (l : List UInt8) : Bool := l.all fun b => decide (hval b.toNat < 16)
/-- the bytes that pairs of digits stand for -/
def dec : List UInt8 → List UInt8
  | a :: b :: r => UInt8.ofNat (16 * hval a.toNat + hval b.toNat) :: dec r
  | _ => []
theorem dec_two : ∀ (l : List UInt8) (a b : UInt8), l.length % 2 = 0 → dec (l ++ [a, b]) = dec l ++ [UInt8.ofNat (16 * hval a.toNat + hval b.toNat)]
  | [], a, b, _ => rfl
  | [x], a, b, h => by simp at h
  | x :: y :: r, a, b, h => by
    simp only [List.cons_append, dec]
    rw [dec_two r a b (by simp at h; omega)]
theorem dec_one : ∀ (l : List UInt8) (a : UInt8), l.length % 2 = 0 → dec (l ++ [a]) = dec l
  | [], a, _ => rfl
  | [x], a, h => by simp at h
  | x :: y :: r, a, h => by
    simp only [List.cons_append, dec]
    rw [dec_one r a (by simp at h; omega)]
theorem dec_length : ∀ l : List UInt8, (dec l).length ≤ l.length
  | [] => by simp [dec]
  | [x] => by simp [dec]
  | x :: y :: r => by
    have := dec_length r
    simp only [dec, List.length_cons]; omega
def decHok (l : List UInt8) : Bool := decide (l.length % 2 = 0) && good l
def decHs (l : List UInt8) : List UInt8 := if decHok l then dec l else []
theorem good_take {l : List UInt8} {k : Nat} (h : good (l.take k) = false) : good l = false := by
  rw [← List.take_append_drop k l]
  unfold good at h ⊢
  rw [List.all_append, h]; rfl
theorem good_snoc (l : List UInt8) (b : UInt8) : good (l ++ [b]) = (good l && decide (hval b.toNat < 16)) := by simp [good]

theorem specFromHex (b : UInt8) (w : World) : Calls Try.prog 24 #[.int .u8 b.toNat] w fun e w' => e = .returned (.int .i64 (hvi b.toNat)) ∧ w = w' := by
  go_enter Try.func24, Try.ntmps24
  go_wp2_with fail
  go_loop [3] (fun i => ∃ k : Nat, k ≤ 16 ∧ i = .int .i64 k ∧ k ≤ hval b.toNat) (fun i => 16 - (intOf i).toNat)
  case atStart => exact ⟨0, by omega, rfl, by omega⟩
  case round =>
    obtain ⟨k, hk, rfl, hle⟩ := hrel
    by_cases hlt : k < 16
    · by_cases he : hval b.toNat = k
      · have hv : Hid (hvi b.toNat = k) := Lib.hid (by unfold hvi; rw [if_pos (by omega), he])
        have hx : hexc k = b := by have := hval_hexc b (by omega); rwa [he] at this
        have hbq : (((hexc k).toNat : Int) == (b.toNat : Int)) = true := by rw [hx]; simp
        clear he hle hx
        go_wp2_with (go_at_call 23; refine (specDigit k _ hlt).mono ?_; rintro e w' ⟨rfl, rfl⟩)
        go_ret
        exact ⟨by rw [hv.out]; rfl, rfl⟩
      · have hx := hexc_ne b hlt he
        have hbq : (((hexc k).toNat : Int) == (b.toNat : Int)) = false := by
          rw [beq_eq_false_iff_ne]
          intro h
          exact hx (UInt8.toNat.inj (by omega))
        clear hx
        go_wp2_with (go_at_call 23; refine (specDigit k _ hlt).mono ?_; rintro e w' ⟨rfl, rfl⟩)
        go_round
        case rel => exact ⟨k + 1, by omega, by go_num, by omega⟩
        case measure => simp [intOf]; omega
    · have hv : Hid (hvi b.toNat = -1) := Lib.hid (by unfold hvi; rw [if_neg (by omega)])
      go_wp2_with fail
      go_ret
      exact ⟨by rw [hv.out]; rfl, rfl⟩
theorem decH_odd {l : List UInt8} (h : l.length % 2 = 1) : decHok l = false ∧ decHs l = [] := by
  have : decHok l = false := by unfold decHok; rw [decide_eq_false (by omega)]; rfl
  exact ⟨this, by unfold decHs; rw [this]; rfl⟩
theorem decH_bad {l : List UInt8} (h : good l = false) : decHok l = false ∧ decHs l = [] := by
  have : decHok l = false := by unfold decHok; rw [h, Bool.and_false]
  exact ⟨this, by unfold decHs; rw [this]; rfl⟩
theorem decH_good {l : List UInt8} (h : l.length % 2 = 0) (hg : good l = true) : decHok l = true ∧ decHs l = dec l := by
  have : decHok l = true := by unfold decHok; rw [hg, decide_eq_true h]; rfl
  exact ⟨this, by unfold decHs; rw [this]; rfl⟩
theorem hvi_neg {n : Nat} (h : ¬ hval n < 16) : hvi n = -1 := by unfold hvi; rw [if_neg h]
theorem hvi_pos {n : Nat} (h : hval n < 16) : hvi n = hval n := by unfold hvi; rw [if_pos h]
set_option maxRecDepth 100000 in
theorem specDecodeHex (s : ByteArray) (w : World) (hs : s.size ≤ 1048576) :
    Calls Try.prog 19 #[.string s] w fun e w' => e = .returned (.tuple #[str (decHs s.data.toList), .bool (decHok s.data.toList)]) ∧ Below w.heap.size w w' := by
  have hsz : s.data.toList.length = s.size := by rw [Array.length_toList]; rfl
  have HZ := Lib.hid hsz
  clear hsz
  by_cases hodd : s.size % 2 = 1
  · have HD := Lib.hid (decH_odd (l := s.data.toList) (by rw [HZ.out]; exact hodd))
    have g1 : (((s.size : Int) % 2) == 1) = true := by simp; omega
    clear hodd
    go_enter Try.func19, Try.ntmps19
    go_wp2_with fail
    go_ret2
    exact ⟨by rw [HD.out.1, HD.out.2]; rfl, (Below.refl _ _).alloc (Nat.le_refl _) _⟩
  · have HE : Hid (s.size % 2 = 0) := Lib.hid (by omega)
    have g1 : (((s.size : Int) % 2) == 1) = false := by simp; omega
    clear hodd
    go_enter Try.func19, Try.ntmps19
    go_wp2_with fail
    go_loopw [4, 5] (fun v i wr => ∃ k : Nat, k ≤ s.size ∧ i = .int .i64 k ∧ Hid (k % 2 = 0) ∧ Hid (good (s.data.toList.take k) = true) ∧ OwnB 5 w.heap.size wr v (dec (s.data.toList.take k)) ∧ Below w.heap.size w wr) (fun _ i _ => s.size - (intOf i).toNat)
    case atStart => exact ⟨0, Nat.zero_le _, rfl, Lib.hid rfl, Lib.hid rfl, World.ownsRow_lit w #[] 0 (Nat.le_refl _) (Nat.zero_le _) rfl, (Below.refl _ _).alloc (Nat.le_refl _) _⟩
    case round =>
      obtain ⟨k, hk, rfl, hev, hgd, hown, hb⟩ := hrel
      by_cases hlt : k < s.size
      · have hlt1 : k + 1 < s.size := by have := HE.out; have := hev.out; omega
        have hbk : s[k].toNat < 256 := s[k].toNat_lt
        have hbk1 : s[k + 1].toNat < 256 := s[k + 1].toNat_lt
        have ht1 := take_snoc s k hlt
        have ht2 := take_snoc s (k + 1) hlt1
        have HT : Hid (s.data.toList.take (k + 2) = s.data.toList.take k ++ [s[k], s[k + 1]]) := Lib.hid (by rw [ht2, ht1]; simp)
        have HT1 := Lib.hid ht1
        clear ht1 ht2
        have hol : (dec (s.data.toList.take k)).length ≤ 1048576 := by
          have := dec_length (s.data.toList.take k)
          have := List.length_take_le k s.data.toList
          omega
        by_cases ha : hval s[k].toNat < 16
        · by_cases hbb : hval s[k + 1].toNat < 16
          · have e1 := hvi_pos ha
            have e2 := hvi_pos hbb
            have HG : Hid (good (s.data.toList.take (k + 2)) = true) := by
              apply Lib.hid
              rw [HT.out]
              have h := hgd.out
              unfold good at h ⊢
              rw [List.all_append, h]
              simp [ha, hbb]
            go_wp2_with (first
              | (go_at_call 24; refine (specFromHex _ _).mono ?_; rintro e w' ⟨rfl, rfl⟩)
              | (at_builtin; refine wpList_push1 rfl _ _ 36 rfl w.heap.size 5 (.int .u8 0) 1 Try.underlying36 infoU8h rfl _ _ _ rfl hown.row _ 1 rfl (by rfl) (by omega) (by omega) hb.size ?_; intro v' w1 hown' hb1 hg1))
            go_roundw
            case rel =>
              have hlen : (s.data.toList.take k).length % 2 = 0 := by rw [List.length_take, HZ.out, Nat.min_eq_left hk]; exact hev.out
              refine ⟨k + 2, by omega, by go_num, Lib.hid (by have := hev.out; omega), HG, ?_, hb.trans hb1⟩
              rw [HT.out, dec_two _ _ _ hlen]
              exact OwnB.snoc hown' (by simp; omega)
            case measure => simp [intOf]; omega
          · have e1 := hvi_pos ha
            have e2 := hvi_neg hbb
            have HD := Lib.hid (decH_bad (l := s.data.toList) (good_take (k := k + 2) (by rw [HT.out]; unfold good; simp [hbb])))
            clear hbb
            go_wp2_with (go_at_call 24; refine (specFromHex _ _).mono ?_; rintro e w' ⟨rfl, rfl⟩)
            go_ret2
            exact ⟨by rw [HD.out.1, HD.out.2]; rfl, hb⟩
        · have e1 := hvi_neg ha
          have HD := Lib.hid (decH_bad (l := s.data.toList) (good_take (k := k + 1) (by rw [HT1.out, good_snoc, decide_eq_false ha, Bool.and_false])))
          clear ha
          go_wp2_with (go_at_call 24; refine (specFromHex _ _).mono ?_; rintro e w' ⟨rfl, rfl⟩)
          go_ret2
          exact ⟨by rw [HD.out.1, HD.out.2]; rfl, hb⟩
      · obtain rfl : k = s.size := by omega
        have hfull : s.data.toList.take s.size = s.data.toList := List.take_of_length_le (by rw [HZ.out]; omega)
        rw [hfull] at hown hgd
        clear hfull
        have HD := Lib.hid (decH_good (by rw [HZ.out]; exact HE.out) hgd.out)
        have hcv := hown.conv (dst := 9) Try.underlying36 Try.underlying5 Try.underlying9
        go_wp2
        go_ret2
        exact ⟨by rw [HD.out.1, HD.out.2]; rfl, hb⟩
end Go.Proofs.Ytbimjllblaaddaa.kit
