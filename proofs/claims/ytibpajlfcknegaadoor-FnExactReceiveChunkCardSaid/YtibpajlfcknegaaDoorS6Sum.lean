/-
  Chapter 6: what spec's and impl's Checksum return, for every string.
-/
import Derived.Test.YtibpajlfcknegaaDoorC1Fixed
import Derived.Lib.Strings
namespace Go.Proofs.YtibpajlfcknegaaDoor.kit
open Go.ChangeShapes Go.WideShapes Go.ChangeAt Go.RowKit
set_option linter.unusedVariables false

def ckStep (c : Int) (b : UInt8) : Int := (c * 257 + (b.toNat : Int) + 1) % 9949
def cksum (l : List UInt8) : Int := l.foldl ckStep 5
theorem cksum_snoc (l : List UInt8) (b : UInt8) : cksum (l ++ [b]) = (cksum l * 257 + (b.toNat : Int) + 1) % 9949 := by simp [cksum, ckStep]
theorem cksum_in (l : List UInt8) : 0 ≤ cksum l ∧ cksum l < 9949 := by
  rcases List.eq_nil_or_concat l with rfl | ⟨l', b, rfl⟩
  · exact ⟨by decide, by decide⟩
  · rw [List.concat_eq_append, cksum_snoc]
    exact ⟨Int.emod_nonneg _ (by omega), Int.emod_lt_of_pos _ (by omega)⟩
theorem specChecksum (s : ByteArray) (w : World) (hs : s.size ≤ 4194304) :
    Calls Tryd.prog 77 #[.string s] w fun e w' => e = .returned (.int .i64 (cksum s.data.toList)) ∧ Below w.heap.size w w' := by
  have hsz : s.data.toList.length = s.size := by rw [Array.length_toList]; rfl
  have HZ := Lib.hid hsz
  clear hsz
  go_enter Tryd.func77, Tryd.ntmps77
  go_wp2_with fail
  go_loopw [3, 4] (fun v i wr => ∃ k : Nat, k ≤ s.size ∧ i = .int .i64 k ∧ v = .int .i64 (cksum (s.data.toList.take k)) ∧ w = wr) (fun _ i _ => s.size - (intOf i).toNat)
  case atStart => exact ⟨0, Nat.zero_le _, rfl, rfl, rfl⟩
  case round =>
    obtain ⟨k, hk, rfl, rfl, rfl⟩ := hrel
    by_cases hlt : k < s.size
    · have HT := Lib.hid (cksum_snoc (s.data.toList.take k) s[k])
      rw [← take_snoc s k hlt] at HT
      have hc := cksum_in (s.data.toList.take k)
      generalize cksum (s.data.toList.take k) = c at *
      have hbk : s[k].toNat < 256 := s[k].toNat_lt
      have hw0 : IntKind.i64.wrap (s[k].toNat : Int) = s[k].toNat := IntWalk.i64_in _ (by omega)
      have hw1 : IntKind.i64.wrap (c * 257) = c * 257 := IntWalk.i64_in _ (by omega)
      have hw2 : IntKind.i64.wrap (c * 257 + (s[k].toNat : Int)) = c * 257 + (s[k].toNat : Int) := IntWalk.i64_in _ (by omega)
      have hw3 : IntKind.i64.wrap (c * 257 + (s[k].toNat : Int) + 1) = c * 257 + (s[k].toNat : Int) + 1 := IntWalk.i64_in _ (by omega)
      have hw4 : (c * 257 + (s[k].toNat : Int) + 1).tmod 9949 = (c * 257 + (s[k].toNat : Int) + 1) % 9949 := Int.tmod_eq_emod_of_nonneg (by omega)
      go_wp2_with fail
      clear hw0 hw1 hw2 hw3 hw4
      go_roundw
      case rel => exact ⟨k + 1, by omega, by go_num, by rw [HT.out], trivial⟩
      case measure => simp [intOf]; omega
    · obtain rfl : k = s.size := by omega
      have hfull : cksum (s.data.toList.take s.size) = cksum s.data.toList := by rw [List.take_of_length_le (by rw [HZ.out]; omega)]
      have HF := Lib.hid hfull
      clear hfull
      go_wp2_with fail
      go_ret
      exact ⟨by rw [← HF.out]; rfl, Below.refl _ _⟩
theorem implChecksum (s : ByteArray) (w : World) (hs : s.size ≤ 4194304) :
    Calls Tryd.prog 80 #[.string s] w fun e w' => e = .returned (.int .i64 (cksum s.data.toList)) ∧ Below w.heap.size w w' := by
  have hsz : s.data.toList.length = s.size := by rw [Array.length_toList]; rfl
  have HZ := Lib.hid hsz
  clear hsz
  go_enter Tryd.func80, Tryd.ntmps80
  go_wp2_with fail
  go_loopw [3, 4, 7] (fun v _ i wr => ∃ k : Nat, k ≤ s.size ∧ i = .int .i64 k ∧ v = .int .i64 (cksum (s.data.toList.take k)) ∧ w = wr) (fun _ _ i _ => s.size - (intOf i).toNat)
  case atStart => exact ⟨0, Nat.zero_le _, rfl, rfl, rfl⟩
  case round =>
    obtain ⟨k, hk, rfl, rfl, rfl⟩ := hrel
    by_cases hlt : k < s.size
    · have HT := Lib.hid (cksum_snoc (s.data.toList.take k) s[k])
      rw [← take_snoc s k hlt, Int.mul_comm] at HT
      have hc := cksum_in (s.data.toList.take k)
      generalize cksum (s.data.toList.take k) = c at *
      have hbk : s[k].toNat < 256 := s[k].toNat_lt
      have hw0 : IntKind.i64.wrap (s[k].toNat : Int) = s[k].toNat := IntWalk.i64_in _ (by omega)
      have hw1 : IntKind.i64.wrap (257 * c) = 257 * c := IntWalk.i64_in _ (by omega)
      have hw2 : IntKind.i64.wrap (257 * c + (s[k].toNat : Int)) = 257 * c + (s[k].toNat : Int) := IntWalk.i64_in _ (by omega)
      have hw3 : IntKind.i64.wrap (257 * c + (s[k].toNat : Int) + 1) = 257 * c + (s[k].toNat : Int) + 1 := IntWalk.i64_in _ (by omega)
      have hw4 : (257 * c + (s[k].toNat : Int) + 1).tmod 9949 = (257 * c + (s[k].toNat : Int) + 1) % 9949 := Int.tmod_eq_emod_of_nonneg (by omega)
      go_wp2_with fail
      clear hw0 hw1 hw2 hw3 hw4
      go_roundw
      case rel => exact ⟨k + 1, by omega, by go_num, by rw [HT.out], trivial⟩
      case measure => simp [intOf]; omega
    · obtain rfl : k = s.size := by omega
      have hfull : cksum (s.data.toList.take s.size) = cksum s.data.toList := by rw [List.take_of_length_le (by rw [HZ.out]; omega)]
      have HF := Lib.hid hfull
      clear hfull
      go_wp2_with fail
      go_ret
      exact ⟨by rw [← HF.out]; rfl, Below.refl _ _⟩
end Go.Proofs.YtibpajlfcknegaaDoor.kit
