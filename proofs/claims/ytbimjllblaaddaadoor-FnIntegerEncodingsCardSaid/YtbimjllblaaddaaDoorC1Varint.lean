/-
  Chapter 1, varints: what spec's and impl's EncodeVarint and DecodeVarint return, for every argument.
-/
import Derived.Test.YtbimjllblaaddaaDoorC1Fixed
namespace Go.Proofs.YtbimjllblaaddaaDoor.kit
open Go.ChangeShapes Go.WideShapes Go.ChangeAt Go.RowKit
set_option linter.unusedVariables false

/-- n in groups of seven bits, the least one first -/
def vi (n : Nat) : List UInt8 := if n < 128 then [UInt8.ofNat n] else UInt8.ofNat (128 + n % 128) :: vi (n / 128)
termination_by n
decreasing_by omega
theorem vi_small {n : Nat} (h : n < 128) : vi n = [UInt8.ofNat n] := by rw [vi, if_pos h]
theorem vi_big {n : Nat} (h : ¬ n < 128) : vi n = UInt8.ofNat (128 + n % 128) :: vi (n / 128) := by rw [vi, if_neg h]
theorem vi_length : ∀ (k n : Nat), n < 128 ^ (k + 1) → (vi n).length ≤ k + 1 := by
  intro k
  induction k with
  | zero => intro n h; rw [vi_small (by simpa using h)]; simp
  | succ k ih =>
    intro n h
    by_cases hn : n < 128
    · rw [vi_small hn]; simp
    · rw [vi_big hn, List.length_cons]
      have := ih (n / 128) (by rw [Nat.pow_succ] at h; omega)
      omega
/-- EncodeVarint as the document has it -/
def encV (n : Int) : List UInt8 := if 0 ≤ n ∧ n ≤ 562949953421311 then vi n.toNat else []
theorem encV_in {n : Nat} (h : n ≤ 562949953421311) : encV n = vi n := by unfold encV; rw [if_pos (by omega)]; simp
theorem encV_out {n : Int} (h : n < 0 ∨ 562949953421311 < n) : encV n = [] := by unfold encV; rw [if_neg (by omega)]
theorem encV_len (n : Int) : (encV n).length ≤ 7 := by
  unfold encV
  split
  · exact vi_length 6 _ (by omega)
  · simp

theorem and127 (m : Nat) (h : m < 9223372036854775808) : bits .and .i64 (m : Int) 127 = ((m % 128 : Nat) : Int) := by
  have h1 := i64_and_nat m 127 h (by omega)
  rw [show ((127 : Nat) : Int) = 127 from rfl] at h1
  rw [h1, show 127 = 2 ^ 7 - 1 from rfl, Nat.and_two_pow_sub_one_eq_mod]
theorem or128 (m : Nat) : bits .or .i64 ((m : Int) % 128) 128 = ((128 + m % 128 : Nat) : Int) := by
  have h1 := i64_or_nat (m % 128) 128 (by omega) (by omega)
  rw [show ((m % 128 : Nat) : Int) = (m : Int) % 128 from rfl, show ((128 : Nat) : Int) = 128 from rfl] at h1
  rw [h1, Nat.or_comm]
  have := Nat.shiftLeft_add_eq_or_of_lt (a := 1) (b := m % 128) (i := 7) (by omega)
  rw [show (1 <<< 7 : Nat) = 128 from rfl] at this
  rw [this]
theorem infoU8 : (Tryd.prog.info? 5).map (fun i => (i.zero, i.size, i.bytes)) = some (some (.int .u8 0), 1, 1) := by kernel_rfl
set_option maxRecDepth 100000 in
theorem implEncodeVarint_in (n : Nat) (w : World) (hn : n ≤ 562949953421311) :
    Calls Tryd.prog 9 #[.int .i64 n] w fun e w' => e = .returned (str (encV n)) ∧ Below w.heap.size w w' := by
  have g1 : decide ((n : Int) < 0) = false := by simp
  have g2 : decide ((562949953421311 : Int) < n) = false := by simp; omega
  have he := Lib.hid (encV_in hn)
  have hlen := vi_length 6 n (by omega)
  have hmk : ∀ W : World, (Instr.makeSlice 22 (.int .i64 0) (.int .i64 7)).run Tryd.prog W = .ok (.slice (some ⟨W.heap.size, 0, none⟩) 0 7) (W.alloc (.cells (madeCells #[.int .u8 0] 7) 5)) := fun _ => by kernel_rfl
  go_enter Tryd.func9, Tryd.ntmps9
  go_wp2_with fail
  clear hmk
  go_loopw [0, 3] (fun a v wr => ∃ (m : Nat) (l : List UInt8), m ≤ n ∧ a = .int .i64 m ∧ OwnB 5 w.heap.size wr v l ∧ Hid (l ++ vi m = vi n) ∧ Below w.heap.size w wr) (fun a _ _ => (intOf a).toNat)
  case atStart => exact ⟨n, [], Nat.le_refl _, rfl, World.ownsRow_made w _ 7 (Nat.le_refl _) (by unfold maxLen; omega) (by simp [size_madeCells]), Lib.hid rfl, (Below.refl _ _).alloc (Nat.le_refl _) _⟩
  case round =>
    obtain ⟨m, l, hm, rfl, hown, hv, hb⟩ := hrel
    have hl : l.length + 1 ≤ 8 := by
      have h := congrArg List.length hv.out
      rw [List.length_append] at h
      omega
    by_cases hlt : 127 < m
    · have e1 : bits .and .i64 (m : Int) 127 = ((m % 128 : Nat) : Int) := and127 m (by omega)
      have e2 : bits .or .i64 ((m : Int) % 128) 128 = ((128 + m % 128 : Nat) : Int) := or128 m
      go_wp2_with (at_builtin; refine wpList_push1 rfl _ _ 22 rfl w.heap.size 5 (.int .u8 0) 1 Tryd.underlying22 infoU8 rfl _ _ _ rfl hown.row _ 1 rfl (by rfl) (by omega) (by omega) hb.size ?_; intro v' w1 hown' hb1 hg1)
      go_roundw
      case rel =>
        refine ⟨m / 128, l ++ [UInt8.ofNat (128 + m % 128)], by have := Nat.div_le_self m 128; omega, by go_num, OwnB.snoc hown' (by simp; omega), Lib.hid ?_, hb.trans hb1⟩
        rw [← hv.out, vi_big (n := m) (by omega), List.append_assoc]; rfl
      case measure => simp [intOf]; omega
    · go_wp2_with (at_builtin; refine wpList_push1 rfl _ _ 22 rfl w.heap.size 5 (.int .u8 0) 1 Tryd.underlying22 infoU8 rfl _ _ _ rfl hown.row _ 1 rfl (by rfl) (by omega) (by omega) hb.size ?_; intro v' w1 hown' hb1 hg1; have hcv := (OwnB.snoc (b := UInt8.ofNat m) hown' (by simp; omega)).conv (dst := 9) Tryd.underlying22 Tryd.underlying5 Tryd.underlying9)
      go_ret
      refine ⟨?_, hb.trans hb1⟩
      rw [he.out, ← hv.out, vi_small (n := m) (by omega)]; rfl
theorem implEncodeVarint (n : Int) (w : World) (hn : n ≤ 9223372036854775807) :
    Calls Tryd.prog 9 #[.int .i64 n] w fun e w' => e = .returned (str (encV n)) ∧ Below w.heap.size w w' := by
  by_cases h : 0 ≤ n
  · by_cases h' : n ≤ 562949953421311
    · obtain ⟨a, rfl⟩ := Int.eq_ofNat_of_zero_le h
      exact implEncodeVarint_in a w (by omega)
    · have g1 : decide (n < 0) = false := by simp; omega
      have g2 : decide ((562949953421311 : Int) < n) = true := by simp; omega
      have he := Lib.hid (encV_out (n := n) (by omega))
      go_enter Tryd.func9, Tryd.ntmps9
      go_wp2_with fail
      go_ret
      exact ⟨by rw [he.out]; rfl, Below.refl _ _⟩
  · have g1 : decide (n < 0) = true := by simp; omega
    have he := Lib.hid (encV_out (n := n) (by omega))
    go_enter Tryd.func9, Tryd.ntmps9
    go_wp2_with fail
    go_ret
    exact ⟨by rw [he.out]; rfl, Below.refl _ _⟩
end Go.Proofs.YtbimjllblaaddaaDoor.kit
