/-
  Chapter 2: the numbers of a set of bits, by the program.
-/
import Derived.Test.YtmojigimlhjphaaDoorS2Plain
namespace Go.Proofs.YtmojigimlhjphaaDoor.kit
open Go.ChangeShapes Go.WideShapes Go.ChangeAt Go.RowKit
set_option linter.unusedVariables false
set_option linter.unusedSimpArgs false

def bitsTo (m k : Nat) : List Int := ((List.range k).filter fun i => m.testBit i).map fun i => ((i : Nat) : Int)
theorem bitsTo_snoc (m k : Nat) : bitsTo m (k + 1) = if m.testBit k = true then bitsTo m k ++ [(k : Int)] else bitsTo m k := by
  unfold bitsTo
  rw [List.range_succ, List.filter_append, List.map_append]
  by_cases h : m.testBit k = true
  · rw [if_pos h, List.filter_cons, if_pos h]; rfl
  · rw [if_neg h, List.filter_cons, if_neg h]; simp
theorem bitsTo_len (m k : Nat) : (bitsTo m k).length ≤ k := by
  unfold bitsTo
  rw [List.length_map]
  have := List.length_filter_le (fun i => m.testBit i) (List.range k)
  simpa using this
set_option maxRecDepth 100000 in
theorem implNumbers (m : Nat) (w : World) (hm : m < 32) :
    Calls Tryd.prog 40 #[.int .u8 m] w fun e w' => ∃ v, e = .returned v ∧ OwnI w.heap.size w' v (bitsOf m) ∧ Below w.heap.size w w' := by
  have hmk : ∀ W : World, (Instr.makeSlice 22 (.int .i64 0) (.int .i64 5)).run Tryd.prog W = .ok (.slice (some ⟨W.heap.size, 0, none⟩) 0 5) (W.alloc (.cells (madeCells #[.int .i64 0] 5) 3)) := fun _ => by kernel_rfl
  go_enter Tryd.func40, Tryd.ntmps40
  go_wp2_with fail
  clear hmk
  go_loopw [3, 6] (fun v i wr => ∃ k : Nat, k ≤ 5 ∧ i = .int .i64 k ∧ OwnI w.heap.size wr v (bitsTo m k) ∧ Below w.heap.size w wr) (fun _ i _ => 5 - (intOf i).toNat)
  case atStart => exact ⟨0, Nat.zero_le _, rfl, World.ownsRow_made w _ 5 (Nat.le_refl _) (by unfold maxLen; omega) (by simp [size_madeCells]), (Below.refl _ _).alloc (Nat.le_refl _) _⟩
  case round =>
    obtain ⟨k, hk, rfl, ho, hb⟩ := hrel
    by_cases hlt : k < 5
    · have j1 := fun W => implHasBit m (k : Int) W hm
      rw [bits_mem' hlt] at j1
      have HT := Lib.hid (bitsTo_snoc m k)
      have hl := bitsTo_len m k
      have hown := ho.row
      have HO := Lib.hid ho
      have HB := Lib.hid hb
      have hs0 := hb.size
      have g5 : decide ((k : Int) < 5) = true := by simp; omega
      clear ho hb
      by_cases ht : m.testBit k = true
      · rw [ht] at j1
        have J1 := Lib.hid j1
        have HT := Lib.hid (HT.out.trans (if_pos ht))
        clear ht j1
        go_wp2_with (first | (go_at_call 48; refine (J1.out _).mono ?_; rintro e w1 ⟨rfl, rfl⟩) | (at_builtin; refine wpList_push1 rfl _ _ 22 rfl w.heap.size 3 (.int .i64 0) 8 Tryd.underlying22 infoI rfl _ _ _ rfl hown _ 1 rfl (by rfl) (by omega) (by omega) hs0 ?_; intro v' w9 hown' hb9 hg9))
        go_roundw
        case rel => exact ⟨k + 1, by omega, by go_num, by rw [HT.out]; exact OwnI.snoc hown', HB.out.trans hb9⟩
        case measure => simp [intOf]; omega
      · have ht' : m.testBit k = false := by simpa using ht
        rw [ht'] at j1
        have J1 := Lib.hid j1
        have HT := Lib.hid (HT.out.trans (if_neg ht))
        clear ht ht' hown j1
        go_wp2_with (go_at_call 48; refine (J1.out _).mono ?_; rintro e w1 ⟨rfl, rfl⟩)
        go_roundw
        case rel => exact ⟨k + 1, by omega, by go_num, by rw [HT.out]; exact HO.out, HB.out⟩
        case measure => simp [intOf]; omega
    · obtain rfl : k = 5 := by omega
      have HO := Lib.hid ho
      have HB := Lib.hid hb
      clear ho hb
      go_wp2_with fail
      go_ret
      exact ⟨_, rfl, HO.out, HB.out⟩
end Go.Proofs.YtmojigimlhjphaaDoor.kit
