/-
  Chapter 1, hexadecimal digits: what spec's and impl's EncodeHex return, for every string; the digit functions.
-/
import Derived.Test.YtbimjllblaaddaaDoorC1Fixed
import Derived.Deep.DeepCutAuto
import Derived.Deep.RegionWith
import Derived.Lib.Strings
import Derived.StillTailTactics
namespace Go.Proofs.YtbimjllblaaddaaDoor.kit
open Go.ChangeShapes Go.WideShapes Go.ChangeAt Go.RowKit
set_option linter.unusedVariables false

/-- a half's digit -/
def hexc (k : Nat) : UInt8 := if k < 10 then UInt8.ofNat (48 + k) else UInt8.ofNat (87 + k)
def hexB (b : UInt8) : List UInt8 := [hexc (b.toNat / 16), hexc (b.toNat % 16)]
def encH (l : List UInt8) : List UInt8 := l.flatMap hexB
theorem encH_snoc (l : List UInt8) (b : UInt8) : encH (l ++ [b]) = encH l ++ hexB b := by simp [encH]
theorem encH_length (l : List UInt8) : (encH l).length = 2 * l.length := by
  induction l with
  | nil => rfl
  | cons b l ih =>
    have : encH (b :: l) = hexB b ++ encH l := by simp [encH]
    rw [this, List.length_append, ih]
    simp [hexB]; omega
def hexStr : ByteArray := { data := #[48, 49, 50, 51, 52, 53, 54, 55, 56, 57, 97, 98, 99, 100, 101, 102] }
theorem hexStr_at : ∀ (k : Nat) (h : k < 16), hexStr[k]? = some (hexc k) := by decide +kernel

theorem hexStr_get {k : Nat} (h : k < hexStr.size) : hexStr[k] = hexc k := by
  have := hexStr_at k h
  rw [ByteArray.getElem?_lt' _ _ h] at this
  exact Option.some.inj this
theorem infoU8h : (Tryd.prog.info? 5).map (fun i => (i.zero, i.size, i.bytes)) = some (some (.int .u8 0), 1, 1) := by kernel_rfl
theorem shr4_u8 : ∀ n : Nat, n < 256 → n / 2 ^ 4 = n / 16 := by intro n _; rfl
theorem and15_u8 (b : UInt8) : bits .and .u8 (b.toNat : Int) 15 = ((b.toNat % 16 : Nat) : Int) := by
  have h : ∀ n : Nat, n < 256 → bits .and .u8 (n : Int) 15 = ((n % 16 : Nat) : Int) := by decide +kernel
  exact h b.toNat b.toNat_lt
theorem implEncodeHex (s : ByteArray) (w : World) (hs : s.size ≤ 1048576) :
    Calls Tryd.prog 15 #[.string s] w fun e w' => e = .returned (str (encH s.data.toList)) ∧ Below w.heap.size w w' := by
  have hsz : s.data.toList.length = s.size := by rw [Array.length_toList]; rfl
  have HZ := Lib.hid hsz
  clear hsz
  have hmk : ∀ W : World, (Instr.makeSlice 22 (.int .i64 0) (.int .i64 (2 * (s.size : Int)))).run Tryd.prog W = .ok (.slice (some ⟨W.heap.size, 0, none⟩) 0 (2 * s.size)) (W.alloc (.cells (madeCells #[.int .u8 0] (2 * s.size)) 5)) := fun W => by
    obtain ⟨i0, hi, hz0, hz1, hz2⟩ := info_parts infoU8h
    have h := run_make (P := Tryd.prog) W 22 5 i0 (.int .u8 0) Tryd.underlying22 hi hz0 .i64 .i64 0 (2 * (s.size : Int)) (by omega) (by omega) (by rw [hz2]; omega) (by omega)
    have e : (2 * (s.size : Int)).toNat = 2 * s.size := by omega
    rw [e] at h
    simpa [hz1, Value.cells] using h
  go_enter Tryd.func15, Tryd.ntmps15
  go_wp2_with fail
  clear hmk
  go_loopw [3, 4, 11] (fun v _ i wr => ∃ k : Nat, k ≤ s.size ∧ i = .int .i64 k ∧ OwnB 5 w.heap.size wr v (encH (s.data.toList.take k)) ∧ Below w.heap.size w wr) (fun _ _ i _ => s.size - (intOf i).toNat)
  case atStart => exact ⟨0, Nat.zero_le _, rfl, World.ownsRow_made w _ _ (Nat.le_refl _) (by unfold maxLen; omega) (by simp [size_madeCells]), (Below.refl _ _).alloc (Nat.le_refl _) _⟩
  case round =>
    obtain ⟨k, hk, rfl, hown, hb⟩ := hrel
    by_cases hlt : k < s.size
    · have hbk : s[k].toNat < 256 := s[k].toNat_lt
      have e1 := and15_u8 s[k]
      have hq1 : s[k].toNat / 16 < hexStr.size := by show _ < 16; omega
      have hq2 : s[k].toNat % 16 < hexStr.size := by show _ < 16; omega
      have HB : Hid (hexB s[k] = [hexStr[s[k].toNat / 16], hexStr[s[k].toNat % 16]]) := by
        apply Lib.hid
        rw [hexStr_get hq1, hexStr_get hq2]; rfl
      have q1 : (0 : Int) ≤ (s[k].toNat : Int) / 16 := by omega
      have q2 : (s[k].toNat : Int) / 16 < 16 := by omega
      have q3 : (0 : Int) ≤ (s[k].toNat : Int) % 16 := by omega
      have q4 : (s[k].toNat : Int) % 16 < 16 := by omega
      have q5 : ((s[k].toNat : Int) / 16).toNat = s[k].toNat / 16 := by omega
      have q6 : ((s[k].toNat : Int) % 16).toNat = s[k].toNat % 16 := by omega
      go_wp2_with fail
      go_region_law (refine step_push rfl _ _ 22 rfl w.heap.size 5 (.int .u8 0) 1 1 Tryd.underlying22 infoU8h rfl (by decide) _ _ _ rfl (hown.row.alloc _).drew wr.heap.size _ 2 2 rfl (heap_alloc_new wr _) (by rfl) (by intro u hu; simp at hu; rcases hu with rfl | rfl <;> rfl) (by omega) (by rw [encH_length]; have := List.length_take_le k s.data.toList; omega) (by omega) (by simp; have := hb.size; omega) ?_; intro g cap w1 hown1 hb1 hlt1)
      all_goals
        go_wp2_with fail
        go_roundw
        case rel =>
          refine ⟨k + 1, by omega, by go_num, ?_, (hb.alloc hb.size _).drew.trans hb1⟩
          rw [take_snoc s k hlt, encH_snoc, HB.out]
          exact OwnB.more hown1 (by rw [List.map_append]; rfl)
        case measure => simp [intOf]; omega
    · obtain rfl : k = s.size := by omega
      have hfull : s.data.toList.take s.size = s.data.toList := List.take_of_length_le (by rw [HZ.out]; omega)
      rw [hfull] at hown
      clear hfull
      have hcv := hown.conv (dst := 9) Tryd.underlying22 Tryd.underlying5 Tryd.underlying9
      go_wp2
      go_ret
      exact ⟨rfl, hb⟩
end Go.Proofs.YtbimjllblaaddaaDoor.kit
