/-
  Formats, digests, snapshots taken (merged text).
-/
import Derived.Test.YtpdpejlcilnafaaGreatDoorC1Fixed
import Derived.Test.YtpdpejlcilnafaaGreatDoorShelf
import Derived.Lib.AppendIntMem
import Derived.Lib.ItoaNum
import Derived.Test.YtpdpejlcilnafaaGreatDoorS3Impl
import Derived.Test.YtpdpejlcilnafaaGreatDoorKept
import Derived.Deep.RegionHeld3
import Derived.Deep.DrawnRows
import Derived.Test.YtpdpejlcilnafaaGreatDoorSnpA
import Derived.Lib.Join
import Derived.Lib.Strings
import Derived.RangeFuncNested
import Derived.RangeFuncBox
import Derived.RangeFuncBound
import Derived.RangeFuncCalls
import Derived.RangeFuncLeaves
import Derived.Shelf.Abstract
import Derived.Shelf.RegionOpen
import Derived.WalkKit
import Derived.OwnWalkIn
import Derived.TacticsInMore
import Derived.LoopNIn
import Derived.LoopIn
import Derived.Maps.AppendAt
import Derived.Test.YtpdpejlcilnafaaGreatDoorMach
import Derived.Test.YtpdpejlcilnafaaGreatDoorKit
import Derived.Test.YtpdpejlcilnafaaGreatDoorS4Rows
namespace Go.Proofs.YtpdpejlcilnafaaGreatDoor.kit
open Go.ChangeShapes Go.WideShapes Go.ChangeAt Go.RowKit
set_option linter.unusedVariables false

/-- the library's table of powers of ten, in this world and in all that grow out of it -/
def Tab (w : World) : Prop := Lib.TabBelow Tryz.prog w.heap.size w "internal/strconv.uint64pow10" .u64 Lib.pow10Tab
theorem Tab.below {w w' : World} (h : Tab w) (hb : Below w.heap.size w w') : Tab w' := fun w'' hb' => h w'' (hb.trans (hb'.mono hb.size))

theorem decDigits_small {u : Nat} (h : u < 10) : Lib.decDigits u = [UInt8.ofNat (48 + u)] := by rw [Lib.decDigits, dif_pos h]
theorem decDigits_big {u : Nat} (h : ¬ u < 10) : Lib.decDigits u = Lib.decDigits (u / 10) ++ [UInt8.ofNat (48 + u % 10)] := by rw [Lib.decDigits, dif_neg h]
theorem decDigits_length : ∀ (k u : Nat), u < 10 ^ (k + 1) → (Lib.decDigits u).length ≤ k + 1 := by
  intro k
  induction k with
  | zero => intro u h; rw [decDigits_small (by simpa using h)]; simp
  | succ k ih =>
    intro u h
    by_cases hu : u < 10
    · rw [decDigits_small hu]; simp
    · rw [decDigits_big hu, List.length_append]
      have := ih (u / 10) (by rw [Nat.pow_succ] at h; omega)
      simp; omega

/-- the numeral's state while its digits are gathered from the end -/
def DigInv (a m : Nat) (l : List UInt8) : Prop := (0 < m → Lib.decDigits m ++ l = Lib.decDigits a) ∧ (m = 0 → l = Lib.decDigits a)
theorem DigInv.start {a : Nat} (h : 0 < a) : DigInv a a [] := ⟨fun _ => by simp, fun h0 => by omega⟩
theorem DigInv.step {a m : Nat} {l : List UInt8} (h : DigInv a m l) (hm : 0 < m) : DigInv a (m / 10) (UInt8.ofNat (48 + m % 10) :: l) := by
  have h1 := h.1 hm
  by_cases hu : m < 10
  · rw [decDigits_small hu] at h1
    refine ⟨fun h0 => by omega, fun _ => ?_⟩
    rw [← h1, Nat.mod_eq_of_lt hu]; rfl
  · rw [decDigits_big hu, List.append_assoc] at h1
    exact ⟨fun _ => h1, fun h0 => by omega⟩
theorem DigInv.len {a m : Nat} {l : List UInt8} (h : DigInv a m l) (ha : a < 10 ^ 20) : l.length ≤ 20 := by
  have hl := decDigits_length 19 a ha
  rcases Nat.eq_zero_or_pos m with h0 | h0
  · rw [h.2 h0]; exact hl
  · have := congrArg List.length (h.1 h0)
    rw [List.length_append] at this
    omega

theorem itoa_le (n : Int) (h0 : -9223372036854775808 ≤ n) (h1 : n ≤ 9223372036854775807) : (Lib.itoa n).length ≤ 21 := by
  unfold Lib.itoa
  split
  · have := decDigits_length 19 n.natAbs (by have : n.natAbs ≤ 9223372036854775808 := by omega
                                             omega)
    simp only [List.length_cons]; omega
  · have := decDigits_length 19 n.toNat (by have : n.toNat ≤ 9223372036854775808 := by omega
                                            omega)
    omega
set_option maxRecDepth 100000 in
theorem specFormatInt_pos (a : Nat) (w : World) (h0 : 0 < a) (h1 : a ≤ 9223372036854775807) :
    Calls Tryz.prog 46 #[.int .i64 a] w fun e w' => e = .returned (str (Lib.decDigits a)) ∧ Below w.heap.size w w' := by
  have g1 : ((a : Int) == 0) = false := by rw [beq_eq_false_iff_ne]; omega
  have g2 : decide ((a : Int) < 0) = false := by simp
  go_enter Tryz.func46, Tryz.ntmps46
  go_wp2_with fail
  go_loopw [0, 3, 5] (fun n o d wr => ∃ (m : Nat) (l : List UInt8), m ≤ a ∧ n = .int .i64 m ∧ o = str l ∧ Hid (DigInv a m l) ∧ Below w.heap.size w wr) (fun n _ _ _ => (intOf n).toNat)
  case atStart => exact ⟨a, [], Nat.le_refl _, rfl, rfl, Lib.hid (DigInv.start h0), Below.refl _ _⟩
  case round =>
    obtain ⟨m, l, hm, rfl, rfl, hinv, hb⟩ := hrel
    have hl := hinv.out.len (by omega)
    by_cases hz : m = 0
    · subst hz
      have HE := Lib.hid (hinv.out.2 rfl)
      go_wp2_with fail
      go_ret
      exact ⟨by rw [← HE.out]; rfl, hb⟩
    · have g3 : ((m : Int) != 0) = true := by rw [bne_iff_ne]; omega
      have g4 : decide ((m : Int) % 10 < 0) = false := by simp; omega
      have hcv : ∀ x : Int, (convert 22 9 (.slice (some ⟨wr.heap.size, 0, none⟩) 1 1)).run Tryz.prog (wr.alloc (.cells #[.int .u8 x] 5)) = .ok (.string ⟨[UInt8.ofNat x.toNat].toArray⟩) (wr.alloc (.cells #[.int .u8 x] 5)) := fun x => conv1 Tryz.underlying22 Tryz.underlying5 Tryz.underlying9 wr x
      go_wp2_with fail
      go_roundw
      case rel =>
        refine ⟨m / 10, UInt8.ofNat (48 + m % 10) :: l, by have := Nat.div_le_self m 10; omega, by go_num, ?_, Lib.hid (hinv.out.step (by omega)), hb.alloc hb.size _⟩
        rw [show (#[48 + UInt8.ofNat (m % 10)] : Array UInt8) = [UInt8.ofNat (48 + m % 10)].toArray by simp, ByteArray.mk_append_mk]
        rfl
      case measure => simp [intOf]; omega
set_option maxRecDepth 100000 in
theorem specFormatInt_neg (a : Nat) (w : World) (h0 : 0 < a) (h1 : a ≤ 9223372036854775808) :
    Calls Tryz.prog 46 #[.int .i64 (-(a : Int))] w fun e w' => e = .returned (str (45 :: Lib.decDigits a)) ∧ Below w.heap.size w w' := by
  have g1 : (-(a : Int) == 0) = false := by rw [beq_eq_false_iff_ne]; omega
  have g2 : decide (-(a : Int) < 0) = true := by simp; omega
  go_enter Tryz.func46, Tryz.ntmps46
  go_wp2_with fail
  go_loopw [0, 3, 5] (fun n o d wr => ∃ (m : Nat) (l : List UInt8), m ≤ a ∧ n = .int .i64 (-(m : Int)) ∧ o = str l ∧ Hid (DigInv a m l) ∧ Below w.heap.size w wr) (fun n _ _ _ => (-(intOf n)).toNat)
  case atStart => exact ⟨a, [], Nat.le_refl _, rfl, rfl, Lib.hid (DigInv.start h0), Below.refl _ _⟩
  case round =>
    obtain ⟨m, l, hm, rfl, rfl, hinv, hb⟩ := hrel
    have hl := hinv.out.len (by omega)
    by_cases hz : m = 0
    · subst hz
      have HE := Lib.hid (hinv.out.2 rfl)
      go_wp2_with fail
      go_ret
      refine ⟨?_, hb⟩
      rw [← HE.out]
      exact congrArg (fun x => Ending.returned (Value.string x)) (ByteArray.mk_append_mk [45] l)
    · have g3 : (-(m : Int) != 0) = true := by rw [bne_iff_ne]; omega
      have q1 : (-(m : Int)).tmod 10 = -((m % 10 : Nat) : Int) := by rw [Int.neg_tmod, Int.tmod_eq_emod_of_nonneg (by omega)]; rfl
      have q2 : (-(m : Int)).tdiv 10 = -((m / 10 : Nat) : Int) := by rw [Int.neg_tdiv, Int.tdiv_eq_ediv_of_nonneg (by omega)]; rfl
      obtain ⟨c, hc⟩ : ∃ c, c = m % 10 := ⟨_, rfl⟩
      obtain ⟨q, hq⟩ : ∃ q, q = m / 10 := ⟨_, rfl⟩
      have hc9 : c ≤ 9 := by omega
      have hqm : q ≤ m := by omega
      rw [← hc] at q1
      rw [← hq] at q2
      have HC := Lib.hid hc
      have HQ := Lib.hid hq
      clear hc hq
      have hcv : ∀ x : Int, (convert 22 9 (.slice (some ⟨wr.heap.size, 0, none⟩) 1 1)).run Tryz.prog (wr.alloc (.cells #[.int .u8 x] 5)) = .ok (.string ⟨[UInt8.ofNat x.toNat].toArray⟩) (wr.alloc (.cells #[.int .u8 x] 5)) := fun x => conv1 Tryz.underlying22 Tryz.underlying5 Tryz.underlying9 wr x
      by_cases hc0 : c = 0
      · subst hc0
        go_wp2_with fail
        go_roundw
        case rel =>
          refine ⟨q, UInt8.ofNat (48 + m % 10) :: l, by omega, rfl, ?_, Lib.hid (by rw [HQ.out]; exact hinv.out.step (by omega)), hb.alloc hb.size _⟩
          rw [← HC.out]
          exact congrArg Value.string (ByteArray.mk_append_mk [48] l)
        case measure =>
          have := HQ.out
          simp [intOf]; omega
      · have g4 : decide (-(c : Int) < 0) = true := by simp; omega
        go_wp2_with fail
        go_roundw
        case rel =>
          refine ⟨q, UInt8.ofNat (48 + m % 10) :: l, by omega, rfl, ?_, Lib.hid (by rw [HQ.out]; exact hinv.out.step (by omega)), hb.alloc hb.size _⟩
          rw [← HC.out, show (#[48 + UInt8.ofNat c] : Array UInt8) = [UInt8.ofNat (48 + c)].toArray by simp, ByteArray.mk_append_mk]
          rfl
        case measure =>
          have := HQ.out
          simp [intOf]; omega
theorem specFormatInt (n : Int) (w : World) (h0 : -9223372036854775808 ≤ n) (h1 : n ≤ 9223372036854775807) :
    Calls Tryz.prog 46 #[.int .i64 n] w fun e w' => e = .returned (str (Lib.itoa n)) ∧ Below w.heap.size w w' := by
  by_cases hz : n = 0
  · subst hz
    have HE : Hid (Lib.itoa 0 = [48]) := Lib.hid (by unfold Lib.itoa; rw [if_neg (by omega)]; exact decDigits_small (by decide))
    go_enter Tryz.func46, Tryz.ntmps46
    go_wp2_with fail
    go_ret
    exact ⟨by rw [HE.out]; rfl, Below.refl _ _⟩
  · by_cases hn : n < 0
    · have e : Lib.itoa n = 45 :: Lib.decDigits n.natAbs := by unfold Lib.itoa; rw [if_pos hn]
      rw [e]
      have h := specFormatInt_neg n.natAbs w (by omega) (by omega)
      rwa [show -(n.natAbs : Int) = n by omega] at h
    · have e : Lib.itoa n = Lib.decDigits n.toNat := by unfold Lib.itoa; rw [if_neg hn]
      rw [e]
      have h := specFormatInt_pos n.toNat w (by omega) (by omega)
      rwa [show (n.toNat : Int) = n by omega] at h
theorem implFormatInt (n : Int) (w : World) (h0 : -9223372036854775808 ≤ n) (h1 : n ≤ 9223372036854775807) (ht : Tab w) :
    Calls Tryz.prog 40 #[.int .i64 n] w fun e w' => e = .returned (str (Lib.itoa n)) ∧ Below w.heap.size w w' := by
  have c1 : Calls Tryz.prog 79 #[.int .i64 n] w fun e w' => e = .returned (str (Lib.itoa n)) ∧ Below w.heap.size w w' :=
    (Tryz.strconv_Itoa n h0 h1 w ht.here).mono fun e w' ⟨he, k, os, hw⟩ => ⟨he, by rw [hw]; exact Lib.below_grow _ _ (Nat.le_refl _) _ _⟩
  have C1 := Lib.hid c1
  clear c1
  go_enter Tryz.func40, Tryz.ntmps40
  go_wp2_with (go_at_call 79; refine (C1.out).mono ?_; rintro e w1 ⟨rfl, hb1⟩)
  go_ret
  exact ⟨rfl, hb1⟩
end Go.Proofs.YtpdpejlcilnafaaGreatDoor.kit
namespace Go.Proofs.YtpdpejlcilnafaaGreatDoor.kit
open Go.ChangeShapes Go.WideShapes Go.ChangeAt Go.RowKit
set_option linter.unusedVariables false
attribute [local go_sem ↓] Go.wp_at_zero Go.wp_at_succ

def wordDone : List UInt8 := [100, 111, 110, 101, 32]
def wordKept : List UInt8 := [107, 101, 112, 116, 32]
def wordWrite : List UInt8 := [119, 114, 105, 116, 101, 32]
def wordSwap : List UInt8 := [115, 119, 97, 112, 32]
def fmtR (b : Bool) (v : Int) : List UInt8 := if okV v then (if b then wordDone else wordKept) ++ Lib.itoa v else []
def fmtA (k o d v : Int) : List UInt8 := if k == 1 then wordWrite ++ Lib.itoa o ++ [32] ++ Lib.itoa v else wordSwap ++ Lib.itoa o ++ [32] ++ Lib.itoa d ++ [32] ++ Lib.itoa v
def fmtO (c s k o d v : Int) : List UInt8 := if okOp c s k o d v then Lib.itoa c ++ [46] ++ Lib.itoa s ++ [32] ++ fmtA k o d v else []
theorem okV_in {v : Int} (h : okV v = true) : 0 ≤ v ∧ v ≤ 9 := of_decide_eq_true h
theorem okC_in {v : Int} (h : okC v = true) : 0 ≤ v ∧ v ≤ 2 := of_decide_eq_true h
theorem okS_in {v : Int} (h : okS v = true) : 1 ≤ v ∧ v ≤ 99 := of_decide_eq_true h

set_option linter.unusedSimpArgs false
set_option maxRecDepth 100000 in
set_option maxHeartbeats 8000000 in
theorem specFormatOp_write (c s o v : Int) (w : World) (hok : Hid (okOp c s 1 o 0 v = true)) (hc : 0 ≤ c ∧ c ≤ 2) (hs : 1 ≤ s ∧ s ≤ 99) (ho : 0 ≤ o ∧ o ≤ 2) (hv : 0 ≤ v ∧ v ≤ 9) :
    Calls Tryz.prog 129 #[opV c s 1 o 0 v] w fun e w' => e = .returned (str (Lib.itoa c ++ [46] ++ Lib.itoa s ++ [32] ++ (wordWrite ++ Lib.itoa o ++ [32] ++ Lib.itoa v))) ∧ Below w.heap.size w w' := by
  unfold opV
  have lc := itoa_le c (by omega) (by omega)
  have ls := itoa_le s (by omega) (by omega)
  have lo := itoa_le o (by omega) (by omega)
  have lv := itoa_le v (by omega) (by omega)
  obtain ⟨WB, hWB⟩ : ∃ W, W = w.alloc (.cells #[.int .i64 c, .int .i64 s, .int .i64 1, .int .i64 o, .int .i64 0, .int .i64 v] 102) := ⟨_, rfl⟩
  have hz : w.heap.size + 1 ≤ WB.heap.size := by rw [hWB]; simp
  have HWB := Lib.hid hWB
  go_enter Tryz.func129, Tryz.ntmps129
  go_wp2_with fail
  refine (specIsValidOp _ _ _ _ _ _ _).mono ?_
  rintro e w1 ⟨he, hb⟩
  rw [hok.out] at he
  subst he
  rw [← HWB.out] at hb
  have hk := kept_of (hb.mono hz)
  have hcc := hk.2
  rw [hWB] at hcc
  clear hb
  go_wp2_with fail
  have e1 : ¬ (9223372036854775807 < (Lib.itoa c).length + 1) := by omega
  have e2 : ¬ (9223372036854775807 < (Lib.itoa c).length + 1 + (Lib.itoa s).length) := by omega
  have e3 : ¬ (9223372036854775807 < (Lib.itoa c).length + 1 + (Lib.itoa s).length + 1) := by omega
  go_region_held3 (fun w' => Below (w.heap.size + 1) WB w' ∧ (∀ b o, b < w.heap.size + 1 → w'.cell? ⟨b, o, none⟩ = WB.cell? ⟨b, o, none⟩)) (first | assumption | exact kept_drew (by assumption) | exact kept_next (by assumption) (by assumption) hz)
    (first | (go_at_call 46; refine (specFormatInt _ _ (by omega) (by omega)).mono ?_; rintro e w2 ⟨rfl, hb2⟩))
  clear e1 e2 e3
  rename_i hk1
  have hcc := hk1.2
  rw [hWB] at hcc
  go_wp2_with fail
  have e1 : ¬ (9223372036854775807 < (Lib.itoa c).length + 1 + (Lib.itoa s).length + 1 + 6) := by omega
  have e2 : ¬ (9223372036854775807 < (Lib.itoa c).length + 1 + (Lib.itoa s).length + 1 + 6 + (Lib.itoa o).length) := by omega
  have e3 : ¬ (9223372036854775807 < (Lib.itoa c).length + 1 + (Lib.itoa s).length + 1 + 6 + (Lib.itoa o).length + 1) := by omega
  have e4 : ¬ (9223372036854775807 < (Lib.itoa c).length + 1 + (Lib.itoa s).length + 1 + 6 + (Lib.itoa o).length + 1 + (Lib.itoa v).length) := by omega
  go_region_held3 (fun w' => Below (w.heap.size + 1) WB w' ∧ (∀ b o, b < w.heap.size + 1 → w'.cell? ⟨b, o, none⟩ = WB.cell? ⟨b, o, none⟩)) (first | assumption | exact kept_drew (by assumption) | exact kept_next (by assumption) (by assumption) hz)
    (first | (go_at_call 46; refine (specFormatInt _ _ (by omega) (by omega)).mono ?_; rintro e w2 ⟨rfl, hb2⟩))
  all_goals
    clear e1 e2 e3 e4
    rename_i hk2
    go_wp2_with fail
    go_ret
    refine ⟨?_, ?_⟩
    · exact congrArg (fun x => Ending.returned (Value.string x)) (by apply ByteArray.ext; apply Array.ext'; simp [wordWrite, wordSwap])
    · rw [hWB] at hk2; exact ((Below.refl _ _).alloc (Nat.le_refl _) _).trans (hk2.1.mono (Nat.le_succ _))
set_option maxRecDepth 100000 in
set_option maxHeartbeats 8000000 in
theorem specFormatOp_swap (c s o d v : Int) (w : World) (hok : Hid (okOp c s 2 o d v = true)) (hc : 0 ≤ c ∧ c ≤ 2) (hs : 1 ≤ s ∧ s ≤ 99) (ho : 0 ≤ o ∧ o ≤ 2) (hd : 0 ≤ d ∧ d ≤ 9) (hv : 0 ≤ v ∧ v ≤ 9) :
    Calls Tryz.prog 129 #[opV c s 2 o d v] w fun e w' => e = .returned (str (Lib.itoa c ++ [46] ++ Lib.itoa s ++ [32] ++ (wordSwap ++ Lib.itoa o ++ [32] ++ Lib.itoa d ++ [32] ++ Lib.itoa v))) ∧ Below w.heap.size w w' := by
  unfold opV
  have lc := itoa_le c (by omega) (by omega)
  have ls := itoa_le s (by omega) (by omega)
  have lo := itoa_le o (by omega) (by omega)
  have ld := itoa_le d (by omega) (by omega)
  have lv := itoa_le v (by omega) (by omega)
  obtain ⟨WB, hWB⟩ : ∃ W, W = w.alloc (.cells #[.int .i64 c, .int .i64 s, .int .i64 2, .int .i64 o, .int .i64 d, .int .i64 v] 102) := ⟨_, rfl⟩
  have hz : w.heap.size + 1 ≤ WB.heap.size := by rw [hWB]; simp
  have HWB := Lib.hid hWB
  go_enter Tryz.func129, Tryz.ntmps129
  go_wp2_with fail
  refine (specIsValidOp _ _ _ _ _ _ _).mono ?_
  rintro e w1 ⟨he, hb⟩
  rw [hok.out] at he
  subst he
  rw [← HWB.out] at hb
  have hk := kept_of (hb.mono hz)
  have hcc := hk.2
  rw [hWB] at hcc
  clear hb
  go_wp2_with fail
  have e1 : ¬ (9223372036854775807 < (Lib.itoa c).length + 1) := by omega
  have e2 : ¬ (9223372036854775807 < (Lib.itoa c).length + 1 + (Lib.itoa s).length) := by omega
  have e3 : ¬ (9223372036854775807 < (Lib.itoa c).length + 1 + (Lib.itoa s).length + 1) := by omega
  go_region_held3 (fun w' => Below (w.heap.size + 1) WB w' ∧ (∀ b o, b < w.heap.size + 1 → w'.cell? ⟨b, o, none⟩ = WB.cell? ⟨b, o, none⟩)) (first | assumption | exact kept_drew (by assumption) | exact kept_next (by assumption) (by assumption) hz)
    (first | (go_at_call 46; refine (specFormatInt _ _ (by omega) (by omega)).mono ?_; rintro e w2 ⟨rfl, hb2⟩))
  clear e1 e2 e3
  rename_i hk1
  have hcc := hk1.2
  rw [hWB] at hcc
  go_wp2_with fail
  have e1 : ¬ (9223372036854775807 < (Lib.itoa c).length + 1 + (Lib.itoa s).length + 1 + 5) := by omega
  have e2 : ¬ (9223372036854775807 < (Lib.itoa c).length + 1 + (Lib.itoa s).length + 1 + 5 + (Lib.itoa o).length) := by omega
  have e3 : ¬ (9223372036854775807 < (Lib.itoa c).length + 1 + (Lib.itoa s).length + 1 + 5 + (Lib.itoa o).length + 1) := by omega
  have e4 : ¬ (9223372036854775807 < (Lib.itoa c).length + 1 + (Lib.itoa s).length + 1 + 5 + (Lib.itoa o).length + 1 + (Lib.itoa d).length) := by omega
  have e5 : ¬ (9223372036854775807 < (Lib.itoa c).length + 1 + (Lib.itoa s).length + 1 + 5 + (Lib.itoa o).length + 1 + (Lib.itoa d).length + 1) := by omega
  have e6 : ¬ (9223372036854775807 < (Lib.itoa c).length + 1 + (Lib.itoa s).length + 1 + 5 + (Lib.itoa o).length + 1 + (Lib.itoa d).length + 1 + (Lib.itoa v).length) := by omega
  go_region_held3 (fun w' => Below (w.heap.size + 1) WB w' ∧ (∀ b o, b < w.heap.size + 1 → w'.cell? ⟨b, o, none⟩ = WB.cell? ⟨b, o, none⟩)) (first | assumption | exact kept_drew (by assumption) | exact kept_next (by assumption) (by assumption) hz)
    (first | (go_at_call 46; refine (specFormatInt _ _ (by omega) (by omega)).mono ?_; rintro e w2 ⟨rfl, hb2⟩))
  all_goals
    clear e1 e2 e3 e4 e5 e6
    rename_i hk2
    go_wp2_with fail
    go_ret
    refine ⟨?_, ?_⟩
    · exact congrArg (fun x => Ending.returned (Value.string x)) (by apply ByteArray.ext; apply Array.ext'; simp [wordWrite, wordSwap])
    · rw [hWB] at hk2; exact ((Below.refl _ _).alloc (Nat.le_refl _) _).trans (hk2.1.mono (Nat.le_succ _))
set_option maxRecDepth 100000 in
set_option maxHeartbeats 8000000 in
theorem specFormatOp_none (c s k o d v : Int) (w : World) (hok : Hid (okOp c s k o d v = false)) :
    Calls Tryz.prog 129 #[opV c s k o d v] w fun e w' => e = .returned (str []) ∧ Below w.heap.size w w' := by
  unfold opV
  go_enter Tryz.func129, Tryz.ntmps129
  go_wp2_with fail
  refine (specIsValidOp _ _ _ _ _ _ _).mono ?_
  rintro e w1 ⟨he, hb⟩
  rw [hok.out] at he
  subst he
  go_wp2_with fail
  go_ret
  exact ⟨rfl, ((Below.refl _ _).alloc (Nat.le_refl _) _).trans (hb.mono (by simp))⟩
theorem okOp_kind {c s k o d v : Int} (h : okOp c s k o d v = true) : (0 ≤ c ∧ c ≤ 2) ∧ (1 ≤ s ∧ s ≤ 99) ∧ (0 ≤ o ∧ o ≤ 2) ∧ (0 ≤ v ∧ v ≤ 9) ∧ (k = 1 ∧ d = 0 ∨ k = 2 ∧ 0 ≤ d ∧ d ≤ 9) := by
  unfold okOp at h
  simp only [Bool.and_eq_true, Bool.or_eq_true, beq_iff_eq] at h
  obtain ⟨⟨⟨⟨h1, h2⟩, h3⟩, h4⟩, h5⟩ := h
  refine ⟨okC_in h1, okS_in h2, okC_in h3, okV_in h4, ?_⟩
  rcases h5 with h5 | ⟨h5, h6⟩
  · exact .inl h5
  · exact .inr ⟨h5, okV_in h6⟩
theorem specFormatOp (c s k o d v : Int) (w : World) : Calls Tryz.prog 129 #[opV c s k o d v] w fun e w' => e = .returned (str (fmtO c s k o d v)) ∧ Below w.heap.size w w' := by
  by_cases h : okOp c s k o d v = true
  · obtain ⟨h1, h2, h3, h4, h5⟩ := okOp_kind h
    rcases h5 with ⟨rfl, rfl⟩ | ⟨rfl, h6⟩
    · have e : fmtO c s 1 o 0 v = Lib.itoa c ++ [46] ++ Lib.itoa s ++ [32] ++ (wordWrite ++ Lib.itoa o ++ [32] ++ Lib.itoa v) := by unfold fmtO; rw [if_pos h]; rfl
      rw [e]; exact specFormatOp_write c s o v w (Lib.hid h) h1 h2 h3 h4
    · have e : fmtO c s 2 o d v = Lib.itoa c ++ [46] ++ Lib.itoa s ++ [32] ++ (wordSwap ++ Lib.itoa o ++ [32] ++ Lib.itoa d ++ [32] ++ Lib.itoa v) := by unfold fmtO; rw [if_pos h]; rfl
      rw [e]; exact specFormatOp_swap c s o d v w (Lib.hid h) h1 h2 h3 h6 h4
  · have e : fmtO c s k o d v = [] := by unfold fmtO; rw [if_neg h]
    rw [e]; exact specFormatOp_none c s k o d v w (Lib.hid (by simpa using h))
set_option maxRecDepth 100000 in
set_option maxHeartbeats 8000000 in
theorem writeFormat (o v : Int) (w : World) (ho : 0 ≤ o ∧ o ≤ 2) (hv : 0 ≤ v ∧ v ≤ 9) (hT : Tab w) : Calls Tryz.prog 214 #[.agg #[.int .i64 o, .int .i64 v]] w fun e w' => e = .returned (str (wordWrite ++ Lib.itoa o ++ [32] ++ Lib.itoa v)) ∧ Below w.heap.size w w' := by
  have lo := itoa_le o (by omega) (by omega)
  have lv := itoa_le v (by omega) (by omega)
  obtain ⟨WB, hWB⟩ : ∃ W, W = w.alloc (.cells #[.int .i64 o, .int .i64 v] 174) := ⟨_, rfl⟩
  have hz : w.heap.size + 1 ≤ WB.heap.size := by rw [hWB]; simp
  have HWB := Lib.hid hWB
  have hA : Below w.heap.size w WB := by rw [hWB]; exact (Below.refl _ _).alloc (Nat.le_refl _) _
  have HT : ∀ W, (Below (w.heap.size + 1) WB W ∧ (∀ b o, b < w.heap.size + 1 → W.cell? ⟨b, o, none⟩ = WB.cell? ⟨b, o, none⟩)) → Tab W := fun W h => hT.below (hA.trans (h.1.mono (Nat.le_succ _)))
  go_enter Tryz.func214, Tryz.ntmps214
  go_wp2_with fail
  rw [← HWB.out]
  have hk := kept_of (Below.refl (w.heap.size + 1) WB)
  have c0 : WB.cell? ⟨w.heap.size, 0, none⟩ = some (.int .i64 o) := by rw [hWB, World.cell?_alloc_at _ _ _ _ rfl]; rfl
  have c1 : WB.cell? ⟨w.heap.size, 1, none⟩ = some (.int .i64 v) := by rw [hWB, World.cell?_alloc_at _ _ _ _ rfl]; rfl
  clear hWB
  have e1 : ¬ (9223372036854775807 < 6 + (Lib.itoa o).length) := by omega
  have e2 : ¬ (9223372036854775807 < 6 + (Lib.itoa o).length + 1) := by omega
  have e3 : ¬ (9223372036854775807 < 6 + (Lib.itoa o).length + 1 + (Lib.itoa v).length) := by omega
  go_region_held3 (fun w' => Below (w.heap.size + 1) WB w' ∧ (∀ b o, b < w.heap.size + 1 → w'.cell? ⟨b, o, none⟩ = WB.cell? ⟨b, o, none⟩)) (first | assumption | exact kept_drew (by assumption) | exact kept_next (by assumption) (by assumption) hz)
    (first | (go_at_call 40; refine (implFormatInt _ _ (by omega) (by omega) (HT _ (by assumption))).mono ?_; rintro e w2 ⟨rfl, hb2⟩))
  all_goals
    clear e1 e2 e3
    rename_i hk2
    go_wp2_with fail
    go_ret
    refine ⟨?_, ?_⟩
    · exact congrArg (fun x => Ending.returned (Value.string x)) (by apply ByteArray.ext; apply Array.ext'; simp [wordWrite, wordSwap])
    · exact hA.trans (hk2.1.mono (Nat.le_succ _))
set_option maxRecDepth 100000 in
set_option maxHeartbeats 8000000 in
theorem swapFormat (o d v : Int) (w : World) (ho : 0 ≤ o ∧ o ≤ 2) (hd : 0 ≤ d ∧ d ≤ 9) (hv : 0 ≤ v ∧ v ≤ 9) (hT : Tab w) : Calls Tryz.prog 218 #[.agg #[.int .i64 o, .int .i64 d, .int .i64 v]] w fun e w' => e = .returned (str (wordSwap ++ Lib.itoa o ++ [32] ++ Lib.itoa d ++ [32] ++ Lib.itoa v)) ∧ Below w.heap.size w w' := by
  have lo := itoa_le o (by omega) (by omega)
  have ld := itoa_le d (by omega) (by omega)
  have lv := itoa_le v (by omega) (by omega)
  obtain ⟨WB, hWB⟩ : ∃ W, W = w.alloc (.cells #[.int .i64 o, .int .i64 d, .int .i64 v] 176) := ⟨_, rfl⟩
  have hz : w.heap.size + 1 ≤ WB.heap.size := by rw [hWB]; simp
  have HWB := Lib.hid hWB
  have hA : Below w.heap.size w WB := by rw [hWB]; exact (Below.refl _ _).alloc (Nat.le_refl _) _
  have HT : ∀ W, (Below (w.heap.size + 1) WB W ∧ (∀ b o, b < w.heap.size + 1 → W.cell? ⟨b, o, none⟩ = WB.cell? ⟨b, o, none⟩)) → Tab W := fun W h => hT.below (hA.trans (h.1.mono (Nat.le_succ _)))
  go_enter Tryz.func218, Tryz.ntmps218
  go_wp2_with fail
  rw [← HWB.out]
  have hk := kept_of (Below.refl (w.heap.size + 1) WB)
  have c0 : WB.cell? ⟨w.heap.size, 0, none⟩ = some (.int .i64 o) := by rw [hWB, World.cell?_alloc_at _ _ _ _ rfl]; rfl
  have c1 : WB.cell? ⟨w.heap.size, 1, none⟩ = some (.int .i64 d) := by rw [hWB, World.cell?_alloc_at _ _ _ _ rfl]; rfl
  have c2 : WB.cell? ⟨w.heap.size, 2, none⟩ = some (.int .i64 v) := by rw [hWB, World.cell?_alloc_at _ _ _ _ rfl]; rfl
  clear hWB
  have e1 : ¬ (9223372036854775807 < 5 + (Lib.itoa o).length) := by omega
  have e2 : ¬ (9223372036854775807 < 5 + (Lib.itoa o).length + 1) := by omega
  have e3 : ¬ (9223372036854775807 < 5 + (Lib.itoa o).length + 1 + (Lib.itoa d).length) := by omega
  have e4 : ¬ (9223372036854775807 < 5 + (Lib.itoa o).length + 1 + (Lib.itoa d).length + 1) := by omega
  have e5 : ¬ (9223372036854775807 < 5 + (Lib.itoa o).length + 1 + (Lib.itoa d).length + 1 + (Lib.itoa v).length) := by omega
  go_region_held3 (fun w' => Below (w.heap.size + 1) WB w' ∧ (∀ b o, b < w.heap.size + 1 → w'.cell? ⟨b, o, none⟩ = WB.cell? ⟨b, o, none⟩)) (first | assumption | exact kept_drew (by assumption) | exact kept_next (by assumption) (by assumption) hz)
    (first | (go_at_call 40; refine (implFormatInt _ _ (by omega) (by omega) (HT _ (by assumption))).mono ?_; rintro e w2 ⟨rfl, hb2⟩))
  all_goals
    clear e1 e2 e3 e4 e5
    rename_i hk2
    go_wp2_with fail
    go_ret
    refine ⟨?_, ?_⟩
    · exact congrArg (fun x => Ending.returned (Value.string x)) (by apply ByteArray.ext; apply Array.ext'; simp [wordWrite, wordSwap])
    · exact hA.trans (hk2.1.mono (Nat.le_succ _))
set_option maxRecDepth 100000 in
set_option maxHeartbeats 8000000 in
theorem implFormatOp_write_no (c s o v : Int) (w : World) (hok : Hid (okOp c s 1 o 0 v = false)) :
    Calls Tryz.prog 122 #[opV c s 1 o 0 v] w fun e w' => e = .returned (str []) ∧ Below w.heap.size w w' := by
  unfold opV
  obtain ⟨WB, hWB⟩ : ∃ W, W = w.alloc (.cells #[.int .i64 c, .int .i64 s, .int .i64 1, .int .i64 o, .int .i64 0, .int .i64 v] 102) := ⟨_, rfl⟩
  have hz : w.heap.size + 1 ≤ WB.heap.size := by rw [hWB]; simp
  have HWB := Lib.hid hWB
  have hA : Below w.heap.size w WB := by rw [hWB]; exact (Below.refl _ _).alloc (Nat.le_refl _) _
  have c0 : WB.cell? ⟨w.heap.size, 0, none⟩ = some (.int .i64 c) := by rw [hWB, World.cell?_alloc_at _ _ _ _ rfl]; rfl
  have c1 : WB.cell? ⟨w.heap.size, 1, none⟩ = some (.int .i64 s) := by rw [hWB, World.cell?_alloc_at _ _ _ _ rfl]; rfl
  go_enter Tryz.func122, Tryz.ntmps122
  go_wp2_with fail
  refine (act_write _ _ _ _ _).mono ?_
  rintro e w1 ⟨rfl, hb⟩
  rw [← HWB.out] at hb
  have hk := kept_of (hb.mono hz)
  have hcc := hk.2
  rw [hWB] at hcc
  clear hb
  go_wp2_with fail
  refine (implIsValidOp _ _ _ _ _ _ _).mono ?_
  rintro e w2 ⟨he, hb⟩
  rw [hok.out] at he
  subst he
  have hk1 := kept_next hk hb hz
  have hcc := hk1.2
  clear hb hk
  go_wp2_with fail
  go_ret
  exact ⟨rfl, hA.trans (hk1.1.mono (Nat.le_succ _))⟩
set_option maxRecDepth 100000 in
set_option maxHeartbeats 8000000 in
theorem implFormatOp_write (c s o v : Int) (w : World) (hok : Hid (okOp c s 1 o 0 v = true)) (hc : 0 ≤ c ∧ c ≤ 2) (hs : 1 ≤ s ∧ s ≤ 99) (ho : 0 ≤ o ∧ o ≤ 2) (hv : 0 ≤ v ∧ v ≤ 9) (hT : Tab w) :
    Calls Tryz.prog 122 #[opV c s 1 o 0 v] w fun e w' => e = .returned (str (Lib.itoa c ++ [46] ++ Lib.itoa s ++ [32] ++ (wordWrite ++ Lib.itoa o ++ [32] ++ Lib.itoa v))) ∧ Below w.heap.size w w' := by
  unfold opV
  have lc := itoa_le c (by omega) (by omega)
  have ls := itoa_le s (by omega) (by omega)
  have lo := itoa_le o (by omega) (by omega)
  have lv := itoa_le v (by omega) (by omega)
  obtain ⟨f, hf⟩ : ∃ f, f = wordWrite ++ Lib.itoa o ++ [32] ++ Lib.itoa v := ⟨_, rfl⟩
  have lf : f.length ≤ 90 := by rw [hf]; simp [wordWrite, wordSwap]; omega
  have HF := Lib.hid hf
  rw [← hf]
  clear hf
  obtain ⟨WB, hWB⟩ : ∃ W, W = w.alloc (.cells #[.int .i64 c, .int .i64 s, .int .i64 1, .int .i64 o, .int .i64 0, .int .i64 v] 102) := ⟨_, rfl⟩
  have hz : w.heap.size + 1 ≤ WB.heap.size := by rw [hWB]; simp
  have HWB := Lib.hid hWB
  have hA : Below w.heap.size w WB := by rw [hWB]; exact (Below.refl _ _).alloc (Nat.le_refl _) _
  have c0 : WB.cell? ⟨w.heap.size, 0, none⟩ = some (.int .i64 c) := by rw [hWB, World.cell?_alloc_at _ _ _ _ rfl]; rfl
  have c1 : WB.cell? ⟨w.heap.size, 1, none⟩ = some (.int .i64 s) := by rw [hWB, World.cell?_alloc_at _ _ _ _ rfl]; rfl
  have HT : ∀ W, (Below (w.heap.size + 1) WB W ∧ (∀ b o, b < w.heap.size + 1 → W.cell? ⟨b, o, none⟩ = WB.cell? ⟨b, o, none⟩)) → Tab W := fun W h => hT.below (hA.trans (h.1.mono (Nat.le_succ _)))
  have cf := fun W h => Lib.hid (writeFormat o v W ho hv (HT W h))
  rw [← HF.out] at cf
  go_enter Tryz.func122, Tryz.ntmps122
  go_wp2_with fail
  refine (act_write _ _ _ _ _).mono ?_
  rintro e w1 ⟨rfl, hb⟩
  rw [← HWB.out] at hb
  have hk := kept_of (hb.mono hz)
  have hcc := hk.2
  rw [hWB] at hcc
  clear hb
  go_wp2_with fail
  refine (implIsValidOp _ _ _ _ _ _ _).mono ?_
  rintro e w2 ⟨he, hb⟩
  rw [hok.out] at he
  subst he
  have hk1 := kept_next hk hb hz
  have hcc := hk1.2
  clear hb hk hWB
  go_wp2_with fail
  have e1 : ¬ (9223372036854775807 < (Lib.itoa c).length + 1) := by omega
  have e2 : ¬ (9223372036854775807 < (Lib.itoa c).length + 1 + (Lib.itoa s).length) := by omega
  have e3 : ¬ (9223372036854775807 < (Lib.itoa c).length + 1 + (Lib.itoa s).length + 1) := by omega
  have e4 : ¬ (9223372036854775807 < (Lib.itoa c).length + 1 + (Lib.itoa s).length + 1 + f.length) := by omega
  go_region_held3 (fun w' => Below (w.heap.size + 1) WB w' ∧ (∀ b o, b < w.heap.size + 1 → w'.cell? ⟨b, o, none⟩ = WB.cell? ⟨b, o, none⟩)) (first | assumption | exact kept_drew (by assumption) | exact kept_next (by assumption) (by assumption) hz)
    (first | (go_at_call 40; refine (implFormatInt _ _ (by omega) (by omega) (HT _ (by assumption))).mono ?_; rintro e w2 ⟨rfl, hb2⟩) | (go_at_call 214; refine ((cf _ (by assumption)).out).mono ?_; rintro e w2 ⟨rfl, hb2⟩))
  all_goals
    clear e1 e2 e3 e4
    rename_i hk2
    go_wp2_with fail
    go_ret
    refine ⟨?_, ?_⟩
    · exact congrArg (fun x => Ending.returned (Value.string x)) (by apply ByteArray.ext; apply Array.ext'; simp [wordWrite, wordSwap])
    · exact hA.trans (hk2.1.mono (Nat.le_succ _))
set_option maxRecDepth 100000 in
set_option maxHeartbeats 8000000 in
theorem implFormatOp_swap_no (c s o d v : Int) (w : World) (hok : Hid (okOp c s 2 o d v = false)) :
    Calls Tryz.prog 122 #[opV c s 2 o d v] w fun e w' => e = .returned (str []) ∧ Below w.heap.size w w' := by
  unfold opV
  obtain ⟨WB, hWB⟩ : ∃ W, W = w.alloc (.cells #[.int .i64 c, .int .i64 s, .int .i64 2, .int .i64 o, .int .i64 d, .int .i64 v] 102) := ⟨_, rfl⟩
  have hz : w.heap.size + 1 ≤ WB.heap.size := by rw [hWB]; simp
  have HWB := Lib.hid hWB
  have hA : Below w.heap.size w WB := by rw [hWB]; exact (Below.refl _ _).alloc (Nat.le_refl _) _
  have c0 : WB.cell? ⟨w.heap.size, 0, none⟩ = some (.int .i64 c) := by rw [hWB, World.cell?_alloc_at _ _ _ _ rfl]; rfl
  have c1 : WB.cell? ⟨w.heap.size, 1, none⟩ = some (.int .i64 s) := by rw [hWB, World.cell?_alloc_at _ _ _ _ rfl]; rfl
  go_enter Tryz.func122, Tryz.ntmps122
  go_wp2_with fail
  refine (act_swap _ _ _ _ _ _).mono ?_
  rintro e w1 ⟨rfl, hb⟩
  rw [← HWB.out] at hb
  have hk := kept_of (hb.mono hz)
  have hcc := hk.2
  rw [hWB] at hcc
  clear hb
  go_wp2_with fail
  refine (implIsValidOp _ _ _ _ _ _ _).mono ?_
  rintro e w2 ⟨he, hb⟩
  rw [hok.out] at he
  subst he
  have hk1 := kept_next hk hb hz
  have hcc := hk1.2
  clear hb hk
  go_wp2_with fail
  go_ret
  exact ⟨rfl, hA.trans (hk1.1.mono (Nat.le_succ _))⟩
set_option maxRecDepth 100000 in
set_option maxHeartbeats 8000000 in
theorem implFormatOp_swap (c s o d v : Int) (w : World) (hok : Hid (okOp c s 2 o d v = true)) (hc : 0 ≤ c ∧ c ≤ 2) (hs : 1 ≤ s ∧ s ≤ 99) (ho : 0 ≤ o ∧ o ≤ 2) (hd : 0 ≤ d ∧ d ≤ 9) (hv : 0 ≤ v ∧ v ≤ 9) (hT : Tab w) :
    Calls Tryz.prog 122 #[opV c s 2 o d v] w fun e w' => e = .returned (str (Lib.itoa c ++ [46] ++ Lib.itoa s ++ [32] ++ (wordSwap ++ Lib.itoa o ++ [32] ++ Lib.itoa d ++ [32] ++ Lib.itoa v))) ∧ Below w.heap.size w w' := by
  unfold opV
  have lc := itoa_le c (by omega) (by omega)
  have ls := itoa_le s (by omega) (by omega)
  have lo := itoa_le o (by omega) (by omega)
  have ld := itoa_le d (by omega) (by omega)
  have lv := itoa_le v (by omega) (by omega)
  obtain ⟨f, hf⟩ : ∃ f, f = wordSwap ++ Lib.itoa o ++ [32] ++ Lib.itoa d ++ [32] ++ Lib.itoa v := ⟨_, rfl⟩
  have lf : f.length ≤ 90 := by rw [hf]; simp [wordWrite, wordSwap]; omega
  have HF := Lib.hid hf
  rw [← hf]
  clear hf
  obtain ⟨WB, hWB⟩ : ∃ W, W = w.alloc (.cells #[.int .i64 c, .int .i64 s, .int .i64 2, .int .i64 o, .int .i64 d, .int .i64 v] 102) := ⟨_, rfl⟩
  have hz : w.heap.size + 1 ≤ WB.heap.size := by rw [hWB]; simp
  have HWB := Lib.hid hWB
  have hA : Below w.heap.size w WB := by rw [hWB]; exact (Below.refl _ _).alloc (Nat.le_refl _) _
  have c0 : WB.cell? ⟨w.heap.size, 0, none⟩ = some (.int .i64 c) := by rw [hWB, World.cell?_alloc_at _ _ _ _ rfl]; rfl
  have c1 : WB.cell? ⟨w.heap.size, 1, none⟩ = some (.int .i64 s) := by rw [hWB, World.cell?_alloc_at _ _ _ _ rfl]; rfl
  have HT : ∀ W, (Below (w.heap.size + 1) WB W ∧ (∀ b o, b < w.heap.size + 1 → W.cell? ⟨b, o, none⟩ = WB.cell? ⟨b, o, none⟩)) → Tab W := fun W h => hT.below (hA.trans (h.1.mono (Nat.le_succ _)))
  have cf := fun W h => Lib.hid (swapFormat o d v W ho hd hv (HT W h))
  rw [← HF.out] at cf
  go_enter Tryz.func122, Tryz.ntmps122
  go_wp2_with fail
  refine (act_swap _ _ _ _ _ _).mono ?_
  rintro e w1 ⟨rfl, hb⟩
  rw [← HWB.out] at hb
  have hk := kept_of (hb.mono hz)
  have hcc := hk.2
  rw [hWB] at hcc
  clear hb
  go_wp2_with fail
  refine (implIsValidOp _ _ _ _ _ _ _).mono ?_
  rintro e w2 ⟨he, hb⟩
  rw [hok.out] at he
  subst he
  have hk1 := kept_next hk hb hz
  have hcc := hk1.2
  clear hb hk hWB
  go_wp2_with fail
  have e1 : ¬ (9223372036854775807 < (Lib.itoa c).length + 1) := by omega
  have e2 : ¬ (9223372036854775807 < (Lib.itoa c).length + 1 + (Lib.itoa s).length) := by omega
  have e3 : ¬ (9223372036854775807 < (Lib.itoa c).length + 1 + (Lib.itoa s).length + 1) := by omega
  have e4 : ¬ (9223372036854775807 < (Lib.itoa c).length + 1 + (Lib.itoa s).length + 1 + f.length) := by omega
  go_region_held3 (fun w' => Below (w.heap.size + 1) WB w' ∧ (∀ b o, b < w.heap.size + 1 → w'.cell? ⟨b, o, none⟩ = WB.cell? ⟨b, o, none⟩)) (first | assumption | exact kept_drew (by assumption) | exact kept_next (by assumption) (by assumption) hz)
    (first | (go_at_call 40; refine (implFormatInt _ _ (by omega) (by omega) (HT _ (by assumption))).mono ?_; rintro e w2 ⟨rfl, hb2⟩) | (go_at_call 218; refine ((cf _ (by assumption)).out).mono ?_; rintro e w2 ⟨rfl, hb2⟩))
  all_goals
    clear e1 e2 e3 e4
    rename_i hk2
    go_wp2_with fail
    go_ret
    refine ⟨?_, ?_⟩
    · exact congrArg (fun x => Ending.returned (Value.string x)) (by apply ByteArray.ext; apply Array.ext'; simp [wordWrite, wordSwap])
    · exact hA.trans (hk2.1.mono (Nat.le_succ _))
set_option maxRecDepth 100000 in
set_option maxHeartbeats 8000000 in
theorem implFormatOp_none1 (c s o d v : Int) (w : World) (H1 : Hid ((d == 0) = false)) :
    Calls Tryz.prog 122 #[opV c s 1 o d v] w fun e w' => e = .returned (str []) ∧ Below w.heap.size w w' := by
  unfold opV
  go_enter Tryz.func122, Tryz.ntmps122
  go_wp2_with fail
  refine (act_none1 _ _ _ _ _ _ H1.out).mono ?_
  rintro e w1 ⟨rfl, hb⟩
  go_wp2_with fail
  go_ret
  exact ⟨rfl, ((Below.refl _ _).alloc (Nat.le_refl _) _).trans (hb.mono (by simp))⟩
set_option maxRecDepth 100000 in
set_option maxHeartbeats 8000000 in
theorem implFormatOp_none (c s k o d v : Int) (w : World) (H1 : Hid ((k == 1) = false)) (H2 : Hid ((k == 2) = false)) :
    Calls Tryz.prog 122 #[opV c s k o d v] w fun e w' => e = .returned (str []) ∧ Below w.heap.size w w' := by
  unfold opV
  go_enter Tryz.func122, Tryz.ntmps122
  go_wp2_with fail
  refine (act_none _ _ _ _ _ _ _ H1.out H2.out).mono ?_
  rintro e w1 ⟨rfl, hb⟩
  go_wp2_with fail
  go_ret
  exact ⟨rfl, ((Below.refl _ _).alloc (Nat.le_refl _) _).trans (hb.mono (by simp))⟩
theorem implFormatOp (c s k o d v : Int) (w : World) (hT : Tab w) : Calls Tryz.prog 122 #[opV c s k o d v] w fun e w' => e = .returned (str (fmtO c s k o d v)) ∧ Below w.heap.size w w' := by
  by_cases h : okOp c s k o d v = true
  · obtain ⟨h1, h2, h3, h4, h5⟩ := okOp_kind h
    rcases h5 with ⟨rfl, rfl⟩ | ⟨rfl, h6⟩
    · have e : fmtO c s 1 o 0 v = Lib.itoa c ++ [46] ++ Lib.itoa s ++ [32] ++ (wordWrite ++ Lib.itoa o ++ [32] ++ Lib.itoa v) := by unfold fmtO; rw [if_pos h]; rfl
      rw [e]; exact implFormatOp_write c s o v w (Lib.hid h) h1 h2 h3 h4 hT
    · have e : fmtO c s 2 o d v = Lib.itoa c ++ [46] ++ Lib.itoa s ++ [32] ++ (wordSwap ++ Lib.itoa o ++ [32] ++ Lib.itoa d ++ [32] ++ Lib.itoa v) := by unfold fmtO; rw [if_pos h]; rfl
      rw [e]; exact implFormatOp_swap c s o d v w (Lib.hid h) h1 h2 h3 h6 h4 hT
  · have e : fmtO c s k o d v = [] := by unfold fmtO; rw [if_neg h]
    have h := Lib.hid (show okOp c s k o d v = false by simpa using h)
    rw [e]
    by_cases h1 : k = 1
    · subst h1
      by_cases h0 : d = 0
      · subst h0; exact implFormatOp_write_no c s o v w h
      · exact implFormatOp_none1 c s o d v w (Lib.hid (by simpa using h0))
    · by_cases h2 : k = 2
      · subst h2; exact implFormatOp_swap_no c s o d v w h
      · exact implFormatOp_none c s k o d v w (Lib.hid (by simpa using h1)) (Lib.hid (by simpa using h2))
end Go.Proofs.YtpdpejlcilnafaaGreatDoor.kit
namespace Go.Proofs.YtpdpejlcilnafaaGreatDoor.kit
open Go.ChangeShapes Go.WideShapes Go.ChangeAt Go.RowKit
set_option linter.unusedVariables false

def fmtE (x : Ent) : List UInt8 := Lib.itoa x.e ++ [58] ++ fmtO x.c x.s x.k x.o x.d x.v
/-- the first k entries, with ';' between them -/
def joinTo (L : List Ent) : Nat → List UInt8
  | 0 => []
  | k + 1 => joinTo L k ++ (if 0 < k then [59] else []) ++ fmtE (gE L k)
def wordNone : List UInt8 := [110, 111, 110, 101]
def fmtL (L : List Ent) : List UInt8 := if LOk L then (if L.length = 0 then wordNone else joinTo L L.length) else []
theorem fmtO_len (c s k o d v : Int) : (fmtO c s k o d v).length ≤ 200 := by
  unfold fmtO
  by_cases h : okOp c s k o d v = true
  · obtain ⟨h1, h2, h3, h4, h5⟩ := okOp_kind h
    have hd : 0 ≤ d ∧ d ≤ 9 := by rcases h5 with ⟨_, rfl⟩ | ⟨_, h6⟩ <;> omega
    have lc := itoa_le c (by omega) (by omega)
    have ls := itoa_le s (by omega) (by omega)
    have lo := itoa_le o (by omega) (by omega)
    have lv := itoa_le v (by omega) (by omega)
    have ld := itoa_le d (by omega) (by omega)
    rw [if_pos h]
    unfold fmtA
    split <;> simp [wordWrite, wordSwap] <;> omega
  · rw [if_neg h]; simp
theorem okE_in {n : Int} (h : okE n = true) : 1 ≤ n ∧ n ≤ 20 := of_decide_eq_true h
theorem entOk_e {x : Ent} (h : entOk x = true) : 1 ≤ x.e ∧ x.e ≤ 20 := by
  unfold entOk at h
  simp only [Bool.and_eq_true] at h
  exact okE_in h.1
theorem fmtE_len {x : Ent} (h : 1 ≤ x.e ∧ x.e ≤ 20) : (fmtE x).length ≤ 230 := by
  have l1 := itoa_le x.e (by omega) (by omega)
  have l2 := fmtO_len x.c x.s x.k x.o x.d x.v
  unfold fmtE
  simp; omega
theorem joinTo_len {L : List Ent} (h : LOk L) : ∀ k, k ≤ L.length → (joinTo L k).length ≤ 250 * k
  | 0, _ => by simp [joinTo]
  | k + 1, hk => by
    have := joinTo_len h k (by omega)
    have l := fmtE_len (entOk_e (h.1 k (by omega)).1)
    unfold joinTo
    simp only [List.length_append]
    split <;> simp <;> omega
theorem joinTo_join (L : List Ent) : Lib.join (L.map fmtE) [59] = joinTo L L.length := by
  cases L with
  | nil => rfl
  | cons x r =>
    rw [List.map_cons, Lib.join_cons]
    have h : ∀ k, k ≤ r.length → fmtE x ++ Lib.joinTail [59] ((r.map fmtE).take k) = joinTo (x :: r) (k + 1) := by
      intro k
      induction k with
      | zero => intro _; simp [joinTo, Lib.joinTail, gE]
      | succ k ih =>
        intro hk
        have hy : (r.map fmtE)[k]? = some (fmtE (gE (x :: r) (k + 1))) := by
          rw [List.getElem?_map, List.getElem?_eq_getElem (by omega)]
          simp [gE, List.getD, List.getElem?_eq_getElem (show k < r.length by omega)]
        rw [Lib.joinTail_take_succ _ _ _ _ hy]
        have e := ih (by omega)
        rw [show joinTo (x :: r) (k + 1 + 1) = joinTo (x :: r) (k + 1) ++ (if 0 < k + 1 then [59] else []) ++ fmtE (gE (x :: r) (k + 1)) from rfl, ← e, if_pos (by omega)]
        simp [List.append_assoc]
    have := h r.length (Nat.le_refl _)
    rw [List.take_of_length_le (by simp)] at this
    exact this
set_option maxRecDepth 100000 in
set_option maxHeartbeats 4000000 in
theorem specFormatLogA (a : Option Addr) (c : Nat) (L : List Ent) (w : World) (hl : L.length ≤ 2097152) (ha : AtE w a L) :
    Calls Tryz.prog 107 #[.slice a L.length c] w fun e w' => e = .returned (str (fmtL L)) ∧ Below w.heap.size w w' := by
  have C1 := Lib.hid (specIsLogA a c L w hl ha)
  have HA := Lib.hid ha
  clear ha
  by_cases he : LOk L
  · have hO : decide (LOk L) = true := decide_eq_true he
    rw [hO] at C1
    by_cases h0 : L.length = 0
    · have HF := Lib.hid (show fmtL L = wordNone by unfold fmtL; rw [if_pos he, if_pos h0])
      obtain rfl : L = [] := List.eq_nil_of_length_eq_zero h0
      clear he hO h0
      go_enter Tryz.func107, Tryz.ntmps107
      go_wp2_with (go_at_call 33; refine (C1.out).mono ?_; rintro e w1 ⟨rfl, hb1⟩)
      go_ret
      exact ⟨by rw [HF.out]; rfl, hb1⟩
    · have HF := Lib.hid (show fmtL L = joinTo L L.length by unfold fmtL; rw [if_pos he, if_neg h0])
      have g0 : ((L.length : Int) == 0) = false := by rw [beq_eq_false_iff_ne]; omega
      have HO := Lib.hid he
      have h16 := he.2
      clear he hO
      go_enter Tryz.func107, Tryz.ntmps107
      go_wp2_with (go_at_call 33; refine (C1.out).mono ?_; rintro e w1 ⟨rfl, hb1⟩)
      have HB1 := Lib.hid hb1
      clear hb1 g0
      go_loopw [3, 4] (fun s i wr => ∃ k : Nat, k ≤ L.length ∧ i = .int .i64 k ∧ s = str (joinTo L k) ∧ Hid (Below w.heap.size w wr)) (fun _ i _ => L.length - (intOf i).toNat)
      case atStart => exact ⟨0, Nat.zero_le _, rfl, rfl, HB1⟩
      case round =>
        obtain ⟨k, hk, rfl, rfl, HQ⟩ := hrel
        by_cases hlt : k < L.length
        · obtain ⟨g, o, rfl, hg, hc⟩ := HA.out k hlt
          obtain ⟨c0, c1, c2, c3, c4, c5, c6⟩ := hc.below HQ.out hg
          have hv := (HO.out.1 k hlt).1
          have he := entOk_e hv
          have HT := Lib.hid (show joinTo L (k + 1) = joinTo L k ++ (if 0 < k then [59] else []) ++ fmtE (gE L k) from rfl)
          have hS := joinTo_len HO.out k (by omega)
          have hfo := fmtO_len (gE L k).c (gE L k).s (gE L k).k (gE L k).o (gE L k).d (gE L k).v
          unfold fmtE at HT
          clear hv
          generalize joinTo L k = S at *
          obtain ⟨xe, xc, xs, xk, xo, xd, xv, hx⟩ : ∃ xe xc xs xk xo xd xv, gE L k = ⟨xe, xc, xs, xk, xo, xd, xv⟩ := ⟨_, _, _, _, _, _, _, rfl⟩
          rw [hx] at c0 c1 c2 c3 c4 c5 c6 he HT hfo
          simp only at c0 c1 c2 c3 c4 c5 c6 he HT hfo
          clear hx hc
          have hgr : g < wr.heap.size := Nat.lt_of_lt_of_le hg HQ.out.size
          have q0 := LaterOf.cell (a := ⟨g, o + k * 7, none⟩) hgr c0
          have q1 := LaterOf.cell (a := ⟨g, o + k * 7 + 1, none⟩) hgr c1
          have q2 := LaterOf.cell (a := ⟨g, o + k * 7 + 2, none⟩) hgr c2
          have q3 := LaterOf.cell (a := ⟨g, o + k * 7 + 3, none⟩) hgr c3
          have q4 := LaterOf.cell (a := ⟨g, o + k * 7 + 4, none⟩) hgr c4
          have q5 := LaterOf.cell (a := ⟨g, o + k * 7 + 5, none⟩) hgr c5
          have q6 := LaterOf.cell (a := ⟨g, o + k * 7 + 6, none⟩) hgr c6
          clear c0 c1 c2 c3 c4 c5 c6
          have hle := itoa_le xe (by omega) (by omega)
          have j1 := fun W => specFormatInt xe W (by omega) (by omega)
          have j2 := fun W => specFormatOp xc xs xk xo xd xv W
          unfold opV at j2
          have J1 : ∀ W, Hid _ := fun W => Lib.hid (j1 W)
          have J2 : ∀ W, Hid _ := fun W => Lib.hid (j2 W)
          clear j1 j2 he
          generalize fmtO xc xs xk xo xd xv = fo at *
          generalize Lib.itoa xe = fe at *
          have k3 : (0 : Int) ≤ (k : Int) := by omega
          have k5 : (k : Int) < (L.length : Int) := by omega
          by_cases h0 : 0 < k
          · rw [if_pos h0] at HT
            have i1 : decide ((0 : Int) < (k : Int)) = true := by simp; omega
            have e0 : ¬ (9223372036854775807 < S.length + 1) := by omega
            have e1 : ¬ (9223372036854775807 < S.length + 1 + fe.length) := by omega
            have e2 : ¬ (9223372036854775807 < S.length + 1 + fe.length + 1) := by omega
            have e3 : ¬ (9223372036854775807 < S.length + 1 + fe.length + 1 + fo.length) := by omega
            go_wp2_with fail
            refine wp_region_later (by kernel_rfl) (by kernel_rfl) ?_
            repeat (go_big_quiet_step (first | (with_reducible exact Calls.later_of (J1 _).out) | (with_reducible exact Calls.later_of (J2 _).out)))
            refine wpQuiet_nil ?_
            intro _ hw'
            obtain ⟨⟨wz, hwz⟩, hw''⟩ := hw'
            subst hw''
            have HZ := Lib.hid (HQ.out.trans (hwz.mono HQ.out.size))
            clear hwz
            go_wp2_with fail
            go_roundw
            case rel => exact ⟨k + 1, by omega, by go_num, by rw [HT.out]; exact congrArg Value.string (by apply ByteArray.ext; apply Array.ext'; simp), HZ⟩
            case measure => simp [intOf]; omega
          · rw [if_neg h0] at HT
            have i1 : decide ((0 : Int) < (k : Int)) = false := by simp; omega
            have e1 : ¬ (9223372036854775807 < S.length + fe.length) := by omega
            have e2 : ¬ (9223372036854775807 < S.length + fe.length + 1) := by omega
            have e3 : ¬ (9223372036854775807 < S.length + fe.length + 1 + fo.length) := by omega
            go_wp2_with fail
            refine wp_region_later (by kernel_rfl) (by kernel_rfl) ?_
            repeat (go_big_quiet_step (first | (with_reducible exact Calls.later_of (J1 _).out) | (with_reducible exact Calls.later_of (J2 _).out)))
            refine wpQuiet_nil ?_
            intro _ hw'
            obtain ⟨⟨wz, hwz⟩, hw''⟩ := hw'
            subst hw''
            have HZ := Lib.hid (HQ.out.trans (hwz.mono HQ.out.size))
            clear hwz
            go_wp2_with fail
            go_roundw
            case rel => exact ⟨k + 1, by omega, by go_num, by rw [HT.out]; exact congrArg Value.string (by apply ByteArray.ext; apply Array.ext'; simp), HZ⟩
            case measure => simp [intOf]; omega
        · obtain rfl : k = L.length := by omega
          clear hlt hk
          go_wp2_with fail
          go_ret
          exact ⟨by rw [HF.out]; rfl, HQ.out⟩
  · have HF := Lib.hid (show fmtL L = [] by unfold fmtL; rw [if_neg he])
    rw [decide_eq_false he] at C1
    clear he
    go_enter Tryz.func107, Tryz.ntmps107
    go_wp2_with (go_at_call 33; refine (C1.out).mono ?_; rintro e w1 ⟨rfl, hb1⟩)
    go_ret
    exact ⟨by rw [HF.out]; rfl, hb1⟩
theorem specFormatLog (b : Nat) (v : Value) (L : List Ent) (w : World) (h : L.length ≤ 2097152) (o : OwnE b w v L) :
    Calls Tryz.prog 107 #[v] w fun e w' => e = .returned (.string ⟨(fmtL L).toArray⟩) ∧ Below w.heap.size w w' := by
  obtain ⟨a, c, rfl, _, _, at1, _⟩ := o.form
  exact specFormatLogA a c L w h at1
theorem infoT : (Tryz.prog.info? 9).map (fun i => (i.zero, i.size, i.bytes)) = some (some (.string ⟨#[]⟩), 1, 16) := by kernel_rfl
def OwnT (base : Nat) (w : World) (v : Value) (l : List ByteArray) : Prop := w.ownsRow base 9 1 v l.length (l.map Value.string)
theorem OwnT.row {base : Nat} {w : World} {v : Value} {l : List ByteArray} (h : OwnT base w v l) : w.ownsRow base 9 1 v l.length (l.map Value.string) := h
theorem OwnT.later {base : Nat} {w w' : World} {v : Value} {l : List ByteArray} (h : OwnT base w v l) (hb : Below w.heap.size w w') : OwnT base w' v l :=
  h.row.kept (row := none) ⟨hb.os, hb.tape, hb.output, hb.size, fun k hk _ => hb.block k hk⟩ (by cases hv : v.ownBlock <;> simp)
theorem OwnT.apart {base : Nat} {w : World} {v : Value} {l : List ByteArray} (h : OwnT base w v l) : ∀ j, v.ownBlock = some j → base ≤ j ∧ j ≠ w.heap.size := fun j hj => ⟨(h.row.lt j hj).1, by have := (h.row.lt j hj).2; omega⟩
theorem OwnT.there {base : Nat} {w : World} {v : Value} {l : List ByteArray} (h : OwnT base w v l) (h0 : 0 < l.length) : ∃ g cap, v = .slice (some ⟨g, 0, none⟩) l.length cap ∧ l.length ≤ cap ∧ g < w.heap.size ∧ ∀ (j : Nat) x, l[j]? = some x → w.cell? ⟨g, 0 + j, none⟩ = some (.string x) := by
  rcases h.2 with ⟨rfl, h1⟩ | ⟨g, c, cur, rfl, hg, hh, hn, hm, _⟩
  · omega
  · refine ⟨g, c, rfl, hn, (Array.getElem?_eq_some_iff.1 hh).1, fun j x hx => ?_⟩
    have hj := (List.getElem?_eq_some_iff.1 hx).1
    have := h.row.cellAt j (by omega)
    rw [Nat.zero_add, this, List.getElem?_map, hx]
    rfl
theorem news_lit (w : World) (X : Value) (t : TypeId) : ∀ (j : Nat) (u : Value), [X][j]? = some u → (w.alloc (.cells #[X] t)).cell? ((⟨w.heap.size, 0, none⟩ : Addr).add j) = some u := by
  intro j u hu
  have hj : j = 0 := by have := (List.getElem?_eq_some_iff.1 hu).1; simpa using this
  subst hj
  have hadd : (⟨w.heap.size, 0, none⟩ : Addr).add 0 = ⟨w.heap.size, 0, none⟩ := by unfold Addr.add; split <;> simp_all
  rw [hadd, World.cell?_alloc_at _ _ _ _ rfl]
  simpa using hu
theorem step_appT {w : World} {ops : Array Oper} {o : Oper} {a : Act} {K : Act → World → Prop} {Q : Exit → Act → World → Prop} {E : Prop} (hgd : o.guard = none) (s x : Operand)
    (ho : o.op = .call { callee := .builtin .append, args := #[s, x], argTypes := #[40, 40] })
    (base : Nat) (v : Value) (l : List ByteArray) (hs : a.eval s = v) (hown : OwnT base w v l) (y : ByteArray) (hx : a.eval x = .slice (some ⟨w.heap.size, 0, none⟩) 1 1) (hlen : l.length ≤ 100000) (hbase : base ≤ w.heap.size)
    (h : ∀ v' w', OwnT base w' v' (l ++ [y]) → (w.alloc (.cells #[.string y] 9)).grownBy w' v.ownBlock → K (a.put o.dst v') w') :
    if Region.wanted o (yielded ops a.tmps) = true then Oper.wp Tryz.prog o a (w.alloc (.cells #[.string y] 9)) K Q else E := by
  obtain ⟨i0, hi, hz0, hz1, hz2⟩ := info_parts infoT
  refine step_append_lies _ hgd s x 40 ho base 9 i0 (.string ⟨#[]⟩) 1 16 Tryz.underlying40 hi hz0 hz1 hz2 rfl (by decide) v l.length _ hs (hown.later ((Below.refl w.heap.size w).alloc (Nat.le_refl _) _)).row ⟨w.heap.size, 0, none⟩ 1 1 [.string y] hx rfl (news_lit w _ _) ?_ (by decide) (by unfold maxLen; omega) (by omega) (by simp; omega) _ rfl ?_
  · intro u hu
    simp only [List.mem_singleton] at hu
    subst hu
    rfl
  · intro g cap w' h1 h2 _ _
    refine h _ w' ?_ h2
    unfold OwnT
    rw [List.length_append, List.map_append]
    exact h1
theorem size_upT (w : World) (o : Obj) : w.heap.size ≤ (w.alloc o).heap.size := by simp
theorem cat3 (x y z : List UInt8) : (⟨x.toArray⟩ ++ ⟨y.toArray⟩ ++ ⟨z.toArray⟩ : ByteArray) = ⟨(x ++ y ++ z).toArray⟩ := by apply ByteArray.ext; apply Array.ext'; simp
def strE (L : List Ent) (k : Nat) : List ByteArray := (L.take k).map fun x => (⟨(fmtE x).toArray⟩ : ByteArray)
theorem strE_snoc (L : List Ent) (k : Nat) (h : k < L.length) : strE L (k + 1) = strE L k ++ [⟨(fmtE (gE L k)).toArray⟩] := by unfold strE; rw [take_snocE L k h, List.map_append]; rfl
theorem strE_len (L : List Ent) (k : Nat) (h : k ≤ L.length) : (strE L k).length = k := by unfold strE; rw [List.length_map, List.length_take]; omega
theorem k8_below {B E N : Nat} {x0 x1 x2 x3 x4 x5 x6 : Value} {w W W' : World} (h : Below B w W ∧ W.cell? ⟨E, 0, none⟩ = some x0 ∧ W.cell? ⟨E, 1, none⟩ = some x1 ∧ W.cell? ⟨E, 2, none⟩ = some x2 ∧ W.cell? ⟨E, 3, none⟩ = some x3 ∧ W.cell? ⟨E, 4, none⟩ = some x4 ∧ W.cell? ⟨E, 5, none⟩ = some x5 ∧ W.cell? ⟨E, 6, none⟩ = some x6) (hb : Below N W W') (hE : Hid (E < N)) (hB : Hid (B ≤ N)) : Below B w W' ∧ W'.cell? ⟨E, 0, none⟩ = some x0 ∧ W'.cell? ⟨E, 1, none⟩ = some x1 ∧ W'.cell? ⟨E, 2, none⟩ = some x2 ∧ W'.cell? ⟨E, 3, none⟩ = some x3 ∧ W'.cell? ⟨E, 4, none⟩ = some x4 ∧ W'.cell? ⟨E, 5, none⟩ = some x5 ∧ W'.cell? ⟨E, 6, none⟩ = some x6 := by
  obtain ⟨h7, h0, h1, h2, h3, h4, h5, h6⟩ := h
  have hn := hE.out
  exact ⟨h7.trans (hb.mono hB.out), (hb.cell (p := ⟨E, 0, none⟩) hn).trans h0, (hb.cell (p := ⟨E, 1, none⟩) hn).trans h1, (hb.cell (p := ⟨E, 2, none⟩) hn).trans h2, (hb.cell (p := ⟨E, 3, none⟩) hn).trans h3, (hb.cell (p := ⟨E, 4, none⟩) hn).trans h4, (hb.cell (p := ⟨E, 5, none⟩) hn).trans h5, (hb.cell (p := ⟨E, 6, none⟩) hn).trans h6⟩
theorem k8_drew {B E : Nat} {x0 x1 x2 x3 x4 x5 x6 : Value} {w W : World} (h : Below B w W ∧ W.cell? ⟨E, 0, none⟩ = some x0 ∧ W.cell? ⟨E, 1, none⟩ = some x1 ∧ W.cell? ⟨E, 2, none⟩ = some x2 ∧ W.cell? ⟨E, 3, none⟩ = some x3 ∧ W.cell? ⟨E, 4, none⟩ = some x4 ∧ W.cell? ⟨E, 5, none⟩ = some x5 ∧ W.cell? ⟨E, 6, none⟩ = some x6) : Below B w W.drew ∧ W.drew.cell? ⟨E, 0, none⟩ = some x0 ∧ W.drew.cell? ⟨E, 1, none⟩ = some x1 ∧ W.drew.cell? ⟨E, 2, none⟩ = some x2 ∧ W.drew.cell? ⟨E, 3, none⟩ = some x3 ∧ W.drew.cell? ⟨E, 4, none⟩ = some x4 ∧ W.drew.cell? ⟨E, 5, none⟩ = some x5 ∧ W.drew.cell? ⟨E, 6, none⟩ = some x6 :=
  ⟨h.1.drew, h.2⟩
theorem k8_alloc {B E : Nat} {x0 x1 x2 x3 x4 x5 x6 : Value} {w W : World} (h : Below B w W ∧ W.cell? ⟨E, 0, none⟩ = some x0 ∧ W.cell? ⟨E, 1, none⟩ = some x1 ∧ W.cell? ⟨E, 2, none⟩ = some x2 ∧ W.cell? ⟨E, 3, none⟩ = some x3 ∧ W.cell? ⟨E, 4, none⟩ = some x4 ∧ W.cell? ⟨E, 5, none⟩ = some x5 ∧ W.cell? ⟨E, 6, none⟩ = some x6) (hE : Hid (E < W.heap.size)) (hB : Hid (B ≤ W.heap.size)) (o : Obj) : Below B w (W.alloc o) ∧ (W.alloc o).cell? ⟨E, 0, none⟩ = some x0 ∧ (W.alloc o).cell? ⟨E, 1, none⟩ = some x1 ∧ (W.alloc o).cell? ⟨E, 2, none⟩ = some x2 ∧ (W.alloc o).cell? ⟨E, 3, none⟩ = some x3 ∧ (W.alloc o).cell? ⟨E, 4, none⟩ = some x4 ∧ (W.alloc o).cell? ⟨E, 5, none⟩ = some x5 ∧ (W.alloc o).cell? ⟨E, 6, none⟩ = some x6 :=
  k8_below h ((Below.refl W.heap.size W).alloc (Nat.le_refl _) o) hE hB
theorem k8_grown {B E : Nat} {u : Value} {x0 x1 x2 x3 x4 x5 x6 : Value} {w W W' : World} (h : Below B w W ∧ W.cell? ⟨E, 0, none⟩ = some x0 ∧ W.cell? ⟨E, 1, none⟩ = some x1 ∧ W.cell? ⟨E, 2, none⟩ = some x2 ∧ W.cell? ⟨E, 3, none⟩ = some x3 ∧ W.cell? ⟨E, 4, none⟩ = some x4 ∧ W.cell? ⟨E, 5, none⟩ = some x5 ∧ W.cell? ⟨E, 6, none⟩ = some x6) (hg : W.grownBy W' u.ownBlock) (hu : Hid (∀ k, u.ownBlock = some k → B ≤ k ∧ k ≠ E)) (hE : Hid (E < W.heap.size)) (hB : Hid (B ≤ W.heap.size)) : Below B w W' ∧ W'.cell? ⟨E, 0, none⟩ = some x0 ∧ W'.cell? ⟨E, 1, none⟩ = some x1 ∧ W'.cell? ⟨E, 2, none⟩ = some x2 ∧ W'.cell? ⟨E, 3, none⟩ = some x3 ∧ W'.cell? ⟨E, 4, none⟩ = some x4 ∧ W'.cell? ⟨E, 5, none⟩ = some x5 ∧ W'.cell? ⟨E, 6, none⟩ = some x6 := by
  obtain ⟨h7, h0, h1, h2, h3, h4, h5, h6⟩ := h
  have hbl : W'.heap[E]? = W.heap[E]? := hg.block _ hE.out (fun e => (hu.out E e.symm).2 rfl)
  have hc := fun q => World.cell?_of_block (a := ⟨E, q, none⟩) hbl
  exact ⟨h7.trans ((Below.refl B W).grown hg hB.out (fun k hk => (hu.out k hk).1)), (hc 0).trans h0, (hc 1).trans h1, (hc 2).trans h2, (hc 3).trans h3, (hc 4).trans h4, (hc 5).trans h5, (hc 6).trans h6⟩
set_option maxRecDepth 100000 in
set_option maxHeartbeats 4000000 in
theorem implFormatLogA (a : Option Addr) (c : Nat) (L : List Ent) (w : World) (hl : L.length ≤ 2097152) (ha : AtE w a L) (hT : Tab w) :
    Calls Tryz.prog 100 #[.slice a L.length c] w fun e w' => e = .returned (str (fmtL L)) ∧ Below w.heap.size w w' := by
  have C1 := Lib.hid (implIsLogA a c L w hl ha)
  have HA := Lib.hid ha
  have HT := Lib.hid hT
  clear ha hT
  by_cases he : LOk L
  · have hO : decide (LOk L) = true := decide_eq_true he
    rw [hO] at C1
    by_cases h0 : L.length = 0
    · have HF := Lib.hid (show fmtL L = wordNone by unfold fmtL; rw [if_pos he, if_pos h0])
      obtain rfl : L = [] := List.eq_nil_of_length_eq_zero h0
      clear he hO h0
      go_enter Tryz.func100, Tryz.ntmps100
      go_wp2_with (go_at_call 29; refine (C1.out).mono ?_; rintro e w1 ⟨rfl, hb1⟩)
      go_ret
      exact ⟨by rw [HF.out]; rfl, hb1⟩
    · have HF := Lib.hid (show fmtL L = joinTo L L.length by unfold fmtL; rw [if_pos he, if_neg h0])
      have g0 : ((L.length : Int) == 0) = false := by rw [beq_eq_false_iff_ne]; omega
      have HO := Lib.hid he
      have h16 := he.2
      have hmk : ∀ W : World, (Instr.makeSlice 40 (.int .i64 0) (.int .i64 (L.length : Int))).run Tryz.prog W = .ok (.slice (some ⟨W.heap.size, 0, none⟩) 0 L.length) (W.alloc (.cells (madeCells #[.string ⟨#[]⟩] L.length) 9)) := fun W => by
        obtain ⟨i0, hi, hz0, hz1, hz2⟩ := info_parts infoT
        have h := run_make (P := Tryz.prog) W 40 9 i0 (.string ⟨#[]⟩) Tryz.underlying40 hi hz0 .i64 .i64 0 (L.length : Int) (by omega) (by omega) (by rw [hz2]; omega) (by omega)
        simpa [hz1, Value.cells] using h
      clear he hO
      go_enter Tryz.func100, Tryz.ntmps100
      go_wp2_with (go_at_call 29; refine (C1.out).mono ?_; rintro e w1 ⟨rfl, hb1⟩)
      have HB1 := Lib.hid hb1
      have hz1 := hb1.size
      clear hb1 g0 hmk
      go_loopw [3, 5, 17] (fun v _ i wr => ∃ k : Nat, k ≤ L.length ∧ i = .int .i64 k ∧ Hid (OwnT w.heap.size wr v (strE L k)) ∧ Hid (Below w.heap.size w wr)) (fun _ _ i _ => L.length - (intOf i).toNat)
      case atStart => exact ⟨0, Nat.zero_le _, rfl, Lib.hid (World.ownsRow_made w1 _ _ hz1 (by unfold maxLen; omega) (by simp [size_madeCells])), Lib.hid (HB1.out.alloc hz1 _)⟩
      case round =>
        obtain ⟨k, hk, rfl, HOW, HQ⟩ := hrel
        by_cases hlt : k < L.length
        · obtain ⟨g, o, rfl, hg, hc⟩ := HA.out k hlt
          obtain ⟨c0, c1, c2, c3, c4, c5, c6⟩ := hc.below HQ.out hg
          have hv := (HO.out.1 k hlt).1
          have he := entOk_e hv
          have HS := Lib.hid (strE_snoc L k hlt)
          have HLN := Lib.hid (strE_len L k (by omega))
          have hfo := fmtO_len (gE L k).c (gE L k).s (gE L k).k (gE L k).o (gE L k).d (gE L k).v
          unfold fmtE at HS
          clear hv
          generalize strE L k = S at *
          obtain ⟨xe, xc, xs, xk, xo, xd, xv, hx⟩ : ∃ xe xc xs xk xo xd xv, gE L k = ⟨xe, xc, xs, xk, xo, xd, xv⟩ := ⟨_, _, _, _, _, _, _, rfl⟩
          rw [hx] at c0 c1 c2 c3 c4 c5 c6 he HS hfo
          simp only at c0 c1 c2 c3 c4 c5 c6 he HS hfo
          clear hx hc
          have hle := itoa_le xe (by omega) (by omega)
          have k3 : (0 : Int) ≤ (k : Int) := by omega
          have k5 : (k : Int) < (L.length : Int) := by omega
          go_wp2_with fail
          clear c0 c1 c2 c3 c4 c5 c6
          obtain ⟨W1, hW1⟩ : ∃ W, W = (wr.alloc (.cells #[.int .i64 xe, .int .i64 xc, .int .i64 xs, .int .i64 xk, .int .i64 xo, .int .i64 xd, .int .i64 xv] 105)) := ⟨_, rfl⟩
          have c0 : W1.cell? ⟨wr.heap.size, 0, none⟩ = some (.int .i64 xe) := by rw [hW1, World.cell?_alloc_at _ _ _ _ rfl]; rfl
          have c1 : W1.cell? ⟨wr.heap.size, 1, none⟩ = some (.int .i64 xc) := by rw [hW1, World.cell?_alloc_at _ _ _ _ rfl]; rfl
          have c2 : W1.cell? ⟨wr.heap.size, 2, none⟩ = some (.int .i64 xs) := by rw [hW1, World.cell?_alloc_at _ _ _ _ rfl]; rfl
          have c3 : W1.cell? ⟨wr.heap.size, 3, none⟩ = some (.int .i64 xk) := by rw [hW1, World.cell?_alloc_at _ _ _ _ rfl]; rfl
          have c4 : W1.cell? ⟨wr.heap.size, 4, none⟩ = some (.int .i64 xo) := by rw [hW1, World.cell?_alloc_at _ _ _ _ rfl]; rfl
          have c5 : W1.cell? ⟨wr.heap.size, 5, none⟩ = some (.int .i64 xd) := by rw [hW1, World.cell?_alloc_at _ _ _ _ rfl]; rfl
          have c6 : W1.cell? ⟨wr.heap.size, 6, none⟩ = some (.int .i64 xv) := by rw [hW1, World.cell?_alloc_at _ _ _ _ rfl]; rfl
          have hbW : Below wr.heap.size wr W1.drew := by rw [hW1]; exact ((Below.refl _ _).alloc (Nat.le_refl _) _).drew
          have hsW : W1.heap.size = wr.heap.size + 1 := by rw [hW1]; simp
          have HBW := Lib.hid (HQ.out.trans (hbW.mono HQ.out.size))
          have HOW1 := Lib.hid (HOW.out.later hbW)
          have HE1 := Lib.hid (show wr.heap.size < W1.drew.heap.size by show wr.heap.size < W1.heap.size; omega)
          have hqs := HQ.out.size
          have HN1 := Lib.hid (show w.heap.size ≤ W1.drew.heap.size by show w.heap.size ≤ W1.heap.size; omega)
          have HU := Lib.hid HOW.out.apart
          have J1 := Lib.hid (implFormatInt xe W1.drew (by omega) (by omega) (HT.out.below HBW.out))
          have j2 := fun W (h : Below w.heap.size w W) => implFormatOp xc xs xk xo xd xv W (HT.out.below h)
          unfold opV at j2
          have J2 := fun W h => Lib.hid (j2 W h)
          clear j2 he hbW
          rw [← hW1]
          clear hW1
          generalize fmtO xc xs xk xo xd xv = fo at *
          generalize Lib.itoa xe = fe at *
          have e1 : ¬ (9223372036854775807 < fe.length + 1) := by omega
          have e2 : ¬ (9223372036854775807 < fe.length + 1 + fo.length) := by omega
          have hSl : S.length ≤ 100000 := by rw [HLN.out]; omega
          have hS0 : Below w.heap.size w W1.drew ∧ W1.drew.cell? ⟨wr.heap.size, 0, none⟩ = some (.int .i64 xe) ∧ W1.drew.cell? ⟨wr.heap.size, 1, none⟩ = some (.int .i64 xc) ∧ W1.drew.cell? ⟨wr.heap.size, 2, none⟩ = some (.int .i64 xs) ∧ W1.drew.cell? ⟨wr.heap.size, 3, none⟩ = some (.int .i64 xk) ∧ W1.drew.cell? ⟨wr.heap.size, 4, none⟩ = some (.int .i64 xo) ∧ W1.drew.cell? ⟨wr.heap.size, 5, none⟩ = some (.int .i64 xd) ∧ W1.drew.cell? ⟨wr.heap.size, 6, none⟩ = some (.int .i64 xv) := ⟨HBW.out, c0, c1, c2, c3, c4, c5, c6⟩
          clear c0 c1 c2 c3 c4 c5 c6
          go_region_held3 (fun w' => Below w.heap.size w w' ∧ w'.cell? ⟨wr.heap.size, 0, none⟩ = some (.int .i64 xe) ∧ w'.cell? ⟨wr.heap.size, 1, none⟩ = some (.int .i64 xc) ∧ w'.cell? ⟨wr.heap.size, 2, none⟩ = some (.int .i64 xs) ∧ w'.cell? ⟨wr.heap.size, 3, none⟩ = some (.int .i64 xk) ∧ w'.cell? ⟨wr.heap.size, 4, none⟩ = some (.int .i64 xo) ∧ w'.cell? ⟨wr.heap.size, 5, none⟩ = some (.int .i64 xd) ∧ w'.cell? ⟨wr.heap.size, 6, none⟩ = some (.int .i64 xv))
            (first | (with_reducible assumption) | (with_reducible exact k8_drew (by with_reducible assumption)) | (with_reducible exact k8_below (by with_reducible assumption) hb2 HE1 HN1) | (with_reducible exact k8_below (by with_reducible assumption) hb3 HE2 HN2) | (with_reducible exact k8_alloc (by with_reducible assumption) HE3 HN3 _) | (with_reducible exact k8_grown (by with_reducible assumption) hg4 HU HE4 HN4))
            (first
            | (go_at_call 40; (with_reducible refine J1.out.mono ?_); rintro e w2 ⟨rfl, hb2⟩; have HE2 := Lib.hid (Nat.lt_of_lt_of_le HE1.out hb2.size); have HN2 := Lib.hid (Nat.le_trans HN1.out hb2.size); have HBW2 := Lib.hid (HBW.out.trans (hb2.mono HN1.out)); have HOW2 := Lib.hid (HOW1.out.later hb2); have J3 := J2 w2 HBW2.out)
            | (go_at_call 122; (with_reducible refine J3.out.mono ?_); rintro e w3 ⟨rfl, hb3⟩; have HE3 := Lib.hid (Nat.lt_of_lt_of_le HE2.out hb3.size); have HN3 := Lib.hid (Nat.le_trans HN2.out hb3.size); have HOW3 := Lib.hid (HOW2.out.later hb3))
            | (refine step_appT rfl (.tmp 21) (.tmp 30) rfl w.heap.size _ S ?_ HOW3.out _ ?_ hSl HN3.out ?_; simp [Act.eval]; simp [Act.eval]; intro v4 w4 ho4 hg4; have HE4 := Lib.hid (Nat.lt_of_lt_of_le HE3.out (size_upT w3 (.cells #[.string (⟨fe.toArray⟩ ++ ⟨#[58]⟩ ++ ⟨fo.toArray⟩)] 9))); have HN4 := Lib.hid (Nat.le_trans HN3.out (size_upT w3 (.cells #[.string (⟨fe.toArray⟩ ++ ⟨#[58]⟩ ++ ⟨fo.toArray⟩)] 9)))))
          all_goals
            rename_i hSE
            have HZ := Lib.hid hSE.1
            clear e1 e2 hSE
            go_wp2_with fail
            go_roundw
            case rel => exact ⟨k + 1, by omega, by go_num, Lib.hid (by rw [HS.out, ← cat3]; exact ho4), HZ⟩
            case measure => simp [intOf]; omega
        · obtain rfl : k = L.length := by omega
          clear hlt hk
          have HLN := strE_len L L.length (Nat.le_refl _)
          have hpos : 0 < L.length := by omega
          obtain ⟨g, cc, hv, hcap, hgl, hcell⟩ := HOW.out.there (by rw [HLN]; exact hpos)
          have hmap : (strE L L.length).map (·.data.toList) = L.map fmtE := by
            unfold strE; rw [List.take_length, List.map_map]; rfl
          have hjl := joinTo_len HO.out L.length (Nat.le_refl _)
          have J := Tryz.strings_Join g 0 cc (strE L L.length) ⟨#[59]⟩ wr hcell hgl (by rw [HLN]; omega) hcap (by rw [hmap, show (⟨#[59]⟩ : ByteArray).data.toList = [59] from rfl, joinTo_join]; omega)
          rw [hmap, show (⟨#[59]⟩ : ByteArray).data.toList = [59] from rfl, joinTo_join, HLN] at J
          rw [HLN] at hv
          subst hv
          have HJ := Lib.hid J
          clear J hmap hcell hgl hcap HLN hjl hpos HOW
          go_wp2_with (go_at_call 123; refine HJ.out.mono ?_; rintro e w2 ⟨rfl, hb2⟩)
          go_ret
          exact ⟨by rw [HF.out]; rfl, HQ.out.trans (hb2.mono HQ.out.size)⟩
  · have HF := Lib.hid (show fmtL L = [] by unfold fmtL; rw [if_neg he])
    rw [decide_eq_false he] at C1
    clear he
    go_enter Tryz.func100, Tryz.ntmps100
    go_wp2_with (go_at_call 29; refine (C1.out).mono ?_; rintro e w1 ⟨rfl, hb1⟩)
    go_ret
    exact ⟨by rw [HF.out]; rfl, hb1⟩
theorem implFormatLog (b : Nat) (v : Value) (L : List Ent) (w : World) (h : L.length ≤ 2097152) (o : OwnE b w v L) (hT : Tab w) :
    Calls Tryz.prog 100 #[v] w fun e w' => e = .returned (.string ⟨(fmtL L).toArray⟩) ∧ Below w.heap.size w w' := by
  obtain ⟨a, c, rfl, _, _, at1, _⟩ := o.form
  exact implFormatLogA a c L w h at1 hT
end Go.Proofs.YtpdpejlcilnafaaGreatDoor.kit
namespace Go.Proofs.YtpdpejlcilnafaaGreatDoor.kit
open Go.ChangeShapes Go.WideShapes Go.ChangeAt Go.RowKit
set_option linter.unusedVariables false

def ckStep (c : Int) (b : UInt8) : Int := (c * 257 + (b.toNat : Int) + 1) % 9949
def cksum (l : List UInt8) : Int := l.foldl ckStep 5
theorem cksum_snoc (l : List UInt8) (b : UInt8) : cksum (l ++ [b]) = (cksum l * 257 + (b.toNat : Int) + 1) % 9949 := by simp [cksum, ckStep]
theorem cksum_in (l : List UInt8) : 0 ≤ cksum l ∧ cksum l < 9949 := by
  rcases List.eq_nil_or_concat l with rfl | ⟨l', b, rfl⟩
  · exact ⟨by decide, by decide⟩
  · rw [List.concat_eq_append, cksum_snoc]
    exact ⟨Int.emod_nonneg _ (by omega), Int.emod_lt_of_pos _ (by omega)⟩
theorem specChecksum (s : ByteArray) (w : World) (hs : s.size ≤ 4194304) :
    Calls Tryz.prog 95 #[.string s] w fun e w' => e = .returned (.int .i64 (cksum s.data.toList)) ∧ Below w.heap.size w w' := by
  have hsz : s.data.toList.length = s.size := by rw [Array.length_toList]; rfl
  have HZ := Lib.hid hsz
  clear hsz
  go_enter Tryz.func95, Tryz.ntmps95
  go_wp2_with fail
  go_loopw [3, 4] (fun v i wr => ∃ k : Nat, k ≤ s.size ∧ i = .int .i64 k ∧ v = .int .i64 (cksum (s.data.toList.take k)) ∧ w = wr) (fun _ i _ => s.size - (intOf i).toNat)
  case atStart => exact ⟨0, Nat.zero_le _, rfl, rfl, rfl⟩
  case round =>
    obtain ⟨k, hk, rfl, rfl, rfl⟩ := hrel
    by_cases hlt : k < s.size
    · have HT := Lib.hid (cksum_snoc (s.data.toList.take k) s[k])
      rw [← take_snoc s k hlt] at HT
      have hc := cksum_in (s.data.toList.take k)
      generalize cksum (s.data.toList.take k) = c at *
      have hbk : s[k].toNat < 256 := s[k].toNat_lt
      have hw0 : IntKind.i64.wrap (s[k].toNat : Int) = s[k].toNat := IntWalk.i64_in _ (by omega)
      have hw1 : IntKind.i64.wrap (c * 257) = c * 257 := IntWalk.i64_in _ (by omega)
      have hw2 : IntKind.i64.wrap (c * 257 + (s[k].toNat : Int)) = c * 257 + (s[k].toNat : Int) := IntWalk.i64_in _ (by omega)
      have hw3 : IntKind.i64.wrap (c * 257 + (s[k].toNat : Int) + 1) = c * 257 + (s[k].toNat : Int) + 1 := IntWalk.i64_in _ (by omega)
      have hw4 : (c * 257 + (s[k].toNat : Int) + 1).tmod 9949 = (c * 257 + (s[k].toNat : Int) + 1) % 9949 := Int.tmod_eq_emod_of_nonneg (by omega)
      go_wp2_with fail
      clear hw0 hw1 hw2 hw3 hw4
      go_roundw
      case rel => exact ⟨k + 1, by omega, by go_num, by rw [HT.out], trivial⟩
      case measure => simp [intOf]; omega
    · obtain rfl : k = s.size := by omega
      have hfull : cksum (s.data.toList.take s.size) = cksum s.data.toList := by rw [List.take_of_length_le (by rw [HZ.out]; omega)]
      have HF := Lib.hid hfull
      clear hfull
      go_wp2_with fail
      go_ret
      exact ⟨by rw [← HF.out]; rfl, Below.refl _ _⟩
theorem implChecksum (s : ByteArray) (w : World) (hs : s.size ≤ 4194304) :
    Calls Tryz.prog 86 #[.string s] w fun e w' => e = .returned (.int .i64 (cksum s.data.toList)) ∧ Below w.heap.size w w' := by
  have hsz : s.data.toList.length = s.size := by rw [Array.length_toList]; rfl
  have HZ := Lib.hid hsz
  clear hsz
  go_enter Tryz.func86, Tryz.ntmps86
  go_wp2_with fail
  go_loopw [3, 4, 7] (fun v _ i wr => ∃ k : Nat, k ≤ s.size ∧ i = .int .i64 k ∧ v = .int .i64 (cksum (s.data.toList.take k)) ∧ w = wr) (fun _ _ i _ => s.size - (intOf i).toNat)
  case atStart => exact ⟨0, Nat.zero_le _, rfl, rfl, rfl⟩
  case round =>
    obtain ⟨k, hk, rfl, rfl, rfl⟩ := hrel
    by_cases hlt : k < s.size
    · have HT := Lib.hid (cksum_snoc (s.data.toList.take k) s[k])
      rw [← take_snoc s k hlt, Int.mul_comm] at HT
      have hc := cksum_in (s.data.toList.take k)
      generalize cksum (s.data.toList.take k) = c at *
      have hbk : s[k].toNat < 256 := s[k].toNat_lt
      have hw0 : IntKind.i64.wrap (s[k].toNat : Int) = s[k].toNat := IntWalk.i64_in _ (by omega)
      have hw1 : IntKind.i64.wrap (257 * c) = 257 * c := IntWalk.i64_in _ (by omega)
      have hw2 : IntKind.i64.wrap (257 * c + (s[k].toNat : Int)) = 257 * c + (s[k].toNat : Int) := IntWalk.i64_in _ (by omega)
      have hw3 : IntKind.i64.wrap (257 * c + (s[k].toNat : Int) + 1) = 257 * c + (s[k].toNat : Int) + 1 := IntWalk.i64_in _ (by omega)
      have hw4 : (257 * c + (s[k].toNat : Int) + 1).tmod 9949 = (257 * c + (s[k].toNat : Int) + 1) % 9949 := Int.tmod_eq_emod_of_nonneg (by omega)
      go_wp2_with fail
      clear hw0 hw1 hw2 hw3 hw4
      go_roundw
      case rel => exact ⟨k + 1, by omega, by go_num, by rw [HT.out], trivial⟩
      case measure => simp [intOf]; omega
    · obtain rfl : k = s.size := by omega
      have hfull : cksum (s.data.toList.take s.size) = cksum s.data.toList := by rw [List.take_of_length_le (by rw [HZ.out]; omega)]
      have HF := Lib.hid hfull
      clear hfull
      go_wp2_with fail
      go_ret
      exact ⟨by rw [← HF.out]; rfl, Below.refl _ _⟩
end Go.Proofs.YtpdpejlcilnafaaGreatDoor.kit
namespace Go.Proofs.YtpdpejlcilnafaaGreatDoor.kit
open Go.ChangeShapes Go.WideShapes Go.ChangeAt Go.RowKit
set_option linter.unusedVariables false

/-- the digest of the first k entries -/
def dg (L : List Ent) : Nat → Int
  | 0 => 11
  | k + 1 => (dg L k * 31 + cksum (fmtL [gE L k])) % 9973
theorem dg_in (L : List Ent) : ∀ k, 0 ≤ dg L k ∧ dg L k < 9973
  | 0 => ⟨by show (0 : Int) ≤ 11; decide, by show (11 : Int) < 9973; decide⟩
  | k + 1 => ⟨Int.emod_nonneg _ (by omega), Int.emod_lt_of_pos _ (by omega)⟩
def dgs (L : List Ent) (n : Nat) : List Int := (List.range n).map (dg L)
theorem dgs_succ (L : List Ent) (n : Nat) : dgs L (n + 1) = dgs L n ++ [dg L n] := by simp [dgs, List.range_succ]
theorem dgs_len (L : List Ent) (n : Nat) : (dgs L n).length = n := by simp [dgs]
theorem dgs_get (L : List Ent) (n k : Nat) (h : k < n) : (dgs L n).getD k 0 = dg L k := by simp [dgs, List.getD, h]
def digL (L : List Ent) : List Int := if LOk L then dgs L (L.length + 1) else []
theorem digL_len (L : List Ent) : (digL L).length ≤ 4194304 := by
  unfold digL
  by_cases h : LOk L
  · rw [if_pos h, dgs_len]; have := h.2; omega
  · rw [if_neg h]; simp
def digO (L : List Ent) (n : Int) : Int := if LOk L ∧ 0 ≤ n ∧ n ≤ L.length then dg L n.toNat else -1
def provesP (L : List Ent) (n d : Int) : Bool := decide (0 ≤ d) && (digO L n == d)
theorem fmtL_len (L : List Ent) : (fmtL L).length ≤ 5000 := by
  unfold fmtL
  by_cases h : LOk L
  · rw [if_pos h]
    by_cases h0 : L.length = 0
    · rw [if_pos h0]; decide
    · rw [if_neg h0]; have := joinTo_len h L.length (Nat.le_refl _); have := h.2; omega
  · rw [if_neg h]; simp
theorem add_mkE (g o k : Nat) : (⟨g, o, none⟩ : Addr).add k = ⟨g, o + k, none⟩ := by unfold Addr.add; split <;> simp_all
/-- the k-th entry alone, as a slice of the list's row -/
theorem AtE.one {w : World} {a : Option Addr} {L : List Ent} (h : AtE w a L) {k : Nat} (hk : k < L.length) : AtE w (a.map (·.add (k * 7))) [gE L k] := fun j hj => by
  obtain rfl : j = 0 := by simpa using hj
  obtain ⟨g, o, rfl, hg, hc⟩ := h k hk
  refine ⟨g, o + k * 7, by rw [Option.map_some, add_mkE], hg, ?_⟩
  rw [Nat.zero_mul, Nat.add_zero]
  exact hc
set_option maxRecDepth 100000 in
theorem run_oneE (W : World) (a : Option Addr) (n cap k : Nat) (hk : k + 1 ≤ cap) : (Instr.slice 24 (.slice a n cap) (some (.int .i64 (k : Int))) (some (.int .i64 ((k : Int) + 1))) none).run Tryz.prog W = .ok (.slice (a.map (·.add (k * 7))) 1 (cap - k)) W := by
  rw [run_slice_lh (P := Tryz.prog) W 24 a n cap (by kernel_rfl) .i64 .i64 (k : Int) ((k : Int) + 1) (by omega) (by omega) (by omega)]
  have hs : (sizeOf (Tryz.prog.elem 24)).run Tryz.prog W = .ok 7 W := by kernel_rfl
  rw [hs]
  show Result.ok (sliced a k ((k : Int) + 1).toNat cap 7) W = _
  rw [show ((k : Int) + 1).toNat = k + 1 by omega]
  unfold sliced
  rw [if_neg (by omega)]
  congr 2
  omega
theorem specChecksumL (l : List UInt8) (w : World) (h : l.length ≤ 1048576) : Calls Tryz.prog 95 #[str l] w fun e w' => e = .returned (.int .i64 (cksum l)) ∧ Below w.heap.size w w' := by
  have := specChecksum ⟨l.toArray⟩ w (by rw [show (⟨l.toArray⟩ : ByteArray).size = l.length by simp [ByteArray.size]]; omega)
  simpa using this
theorem implChecksumL (l : List UInt8) (w : World) (h : l.length ≤ 1048576) : Calls Tryz.prog 86 #[str l] w fun e w' => e = .returned (.int .i64 (cksum l)) ∧ Below w.heap.size w w' := by
  have := implChecksum ⟨l.toArray⟩ w (by rw [show (⟨l.toArray⟩ : ByteArray).size = l.length by simp [ByteArray.size]]; omega)
  simpa using this
theorem specOneE (a : Option Addr) (c k : Nat) (L : List Ent) (w : World) (ha : AtE w a L) (hk : k < L.length) :
    Calls Tryz.prog 107 #[.slice (a.map (·.add (k * 7))) 1 (c - k)] w fun e w' => e = .returned (str (fmtL [gE L k])) ∧ Below w.heap.size w w' :=
  specFormatLogA _ _ [gE L k] w (by simp) (ha.one hk)
theorem implOneE (a : Option Addr) (c k : Nat) (L : List Ent) (w : World) (ha : AtE w a L) (hk : k < L.length) (hT : Tab w) :
    Calls Tryz.prog 100 #[.slice (a.map (·.add (k * 7))) 1 (c - k)] w fun e w' => e = .returned (str (fmtL [gE L k])) ∧ Below w.heap.size w w' :=
  implFormatLogA _ _ [gE L k] w (by simp) (ha.one hk) hT
set_option maxRecDepth 100000 in
set_option maxHeartbeats 4000000 in
theorem specDigestListA (a : Option Addr) (c : Nat) (L : List Ent) (w : World) (hl : L.length ≤ 2097152) (hcap : L.length ≤ c) (ha : AtE w a L) :
    Calls Tryz.prog 74 #[.slice a L.length c] w fun e w' => ∃ v, e = .returned v ∧ OwnI w.heap.size w' v (digL L) ∧ Below w.heap.size w w' := by
  have HA := Lib.hid ha
  have HB0 := Lib.hid ((Below.refl w.heap.size w).alloc (Nat.le_refl _) (.cells #[] 3))
  have C1 := Lib.hid (specIsLogA a c L (w.alloc (.cells #[] 3)) hl (ha.later HB0.out))
  have HO0 := Lib.hid (show OwnI w.heap.size (w.alloc (.cells #[] 3)) (.slice (some ⟨w.heap.size, 0, none⟩) 0 0) [] from World.ownsRow_lit w #[] 0 (Nat.le_refl _) (Nat.zero_le _) rfl)
  clear ha
  by_cases he : LOk L
  · have HF := Lib.hid (show digL L = dgs L (L.length + 1) by unfold digL; rw [if_pos he])
    rw [decide_eq_true he] at C1
    clear he
    go_enter Tryz.func74, Tryz.ntmps74
    go_wp2_with (first
      | (go_at_call 33; refine (C1.out).mono ?_; rintro e w1 ⟨rfl, hb1⟩; have HB1 := Lib.hid (HB0.out.trans (hb1.mono HB0.out.size)); have HO1 := Lib.hid (HO0.out.later hb1); have hz1 := HB1.out.size)
      | (at_builtin; refine wpList_push1 rfl _ _ 27 rfl w.heap.size 3 (.int .i64 0) 8 Tryz.underlying27 infoI rfl _ _ _ rfl HO1.out.row _ 1 rfl (by rfl) (by simp) (by omega) hz1 ?_; intro v' w2 hown' hb2 hg2))
    have HO2 := Lib.hid (show OwnI w.heap.size w2 v' (dgs L 1) from hown')
    have HB2 := Lib.hid (HB1.out.trans hb2)
    clear hown' hb2 hg2 HO1 HB1 hz1 hb1 C1 HO0 HB0
    go_loopw [3, 4, 5] (fun u d i wr => ∃ k : Nat, k ≤ L.length ∧ i = .int .i64 k ∧ d = .int .i64 (dg L k) ∧ Hid (OwnI w.heap.size wr u (dgs L (k + 1))) ∧ Hid (Below w.heap.size w wr)) (fun _ _ i _ => L.length - (intOf i).toNat)
    case atStart => exact ⟨0, Nat.zero_le _, rfl, rfl, HO2, HB2⟩
    case round =>
      obtain ⟨k, hk, rfl, rfl, HO, HB⟩ := hrel
      by_cases hlt : k < L.length
      · have hd := dg_in L k
        have HS := Lib.hid (dgs_succ L (k + 1))
        have HD := Lib.hid (show dg L (k + 1) = (dg L k * 31 + cksum (fmtL [gE L k])) % 9973 from rfl)
        have HN := Lib.hid (dgs_len L (k + 1))
        have R := fun W => run_oneE W a L.length c k (by omega)
        have J1 := Lib.hid (specOneE a c k L wr (HA.out.later HB.out) hlt)
        have J2 := fun W => Lib.hid (specChecksumL (fmtL [gE L k]) W (by have := fmtL_len [gE L k]; omega))
        have hc := cksum_in (fmtL [gE L k])
        generalize cksum (fmtL [gE L k]) = cs at *
        generalize fmtL [gE L k] = fl at *
        generalize dg L k = d at *
        generalize dgs L (k + 1) = D at *
        have hw1 : IntKind.i64.wrap (d * 31) = d * 31 := IntWalk.i64_in _ (by omega)
        have hw2 : IntKind.i64.wrap (d * 31 + cs) = d * 31 + cs := IntWalk.i64_in _ (by omega)
        have hw3 : (d * 31 + cs).tmod 9973 = (d * 31 + cs) % 9973 := Int.tmod_eq_emod_of_nonneg (by omega)
        have hw4 : IntKind.i64.wrap ((d * 31 + cs) % 9973) = (d * 31 + cs) % 9973 := IntWalk.i64_in _ (by have := Int.emod_nonneg (d * 31 + cs) (show (9973 : Int) ≠ 0 by decide); have := Int.emod_lt_of_pos (d * 31 + cs) (show (0 : Int) < 9973 by decide); omega)
        have hw5 : IntKind.i64.wrap ((k : Int) + 1) = (k : Int) + 1 := IntWalk.i64_in _ (by omega)
        have hz := HB.out.size
        go_wp2_with (first
          | (go_at_call 107; refine (J1.out).mono ?_; rintro e w2 ⟨rfl, hb2⟩; have hz2 := Nat.le_trans hz hb2.size; have HO2 := Lib.hid (HO.out.later hb2))
          | (go_at_call 95; refine ((J2 _).out).mono ?_; rintro e w3 ⟨rfl, hb3⟩; have hz3 := Nat.le_trans hz2 hb3.size; have HO3 := Lib.hid (HO2.out.later hb3))
          | (at_builtin; refine wpList_push1 rfl _ _ 27 rfl w.heap.size 3 (.int .i64 0) 8 Tryz.underlying27 infoI rfl _ _ _ rfl HO3.out.row _ 1 rfl (by rfl) (by rw [HN.out]; omega) (by omega) hz3 ?_; intro v' w4 hown' hb4 hg4))
        go_roundw
        case rel => exact ⟨k + 1, by omega, by go_num, by rw [HD.out], Lib.hid (by rw [HS.out, HD.out]; exact OwnI.snoc hown'), Lib.hid (HB.out.trans ((hb2.mono hz).trans ((hb3.mono hz2).trans hb4)))⟩
        case measure => simp [intOf]; omega
      · obtain rfl : k = L.length := by omega
        clear hlt hk
        go_wp2_with fail
        go_ret
        exact ⟨_, rfl, by rw [HF.out]; exact HO.out, HB.out⟩
  · have HF := Lib.hid (show digL L = [] by unfold digL; rw [if_neg he])
    rw [decide_eq_false he] at C1
    clear he
    go_enter Tryz.func74, Tryz.ntmps74
    go_wp2_with (go_at_call 33; refine (C1.out).mono ?_; rintro e w1 ⟨rfl, hb1⟩)
    go_ret
    exact ⟨_, rfl, by rw [HF.out]; exact HO0.out.later hb1, HB0.out.trans (hb1.mono HB0.out.size)⟩
theorem specDigestList (b : Nat) (v : Value) (L : List Ent) (w : World) (h : L.length ≤ 2097152) (o : OwnE b w v L) :
    Calls Tryz.prog 74 #[v] w fun e w' => ∃ v, e = .returned v ∧ OwnI w.heap.size w' v (digL L) ∧ Below w.heap.size w w' := by
  obtain ⟨a, c, rfl, hc, _, at1, _⟩ := o.form
  exact specDigestListA a c L w h hc at1
theorem digO_yes {L : List Ent} {n : Int} (h : 0 ≤ n ∧ n ≤ ((digL L).length : Int) - 1) : digO L n = (digL L).getD n.toNat 0 ∧ n.toNat < (digL L).length := by
  unfold digO
  unfold digL at h ⊢
  by_cases hL : LOk L
  · rw [if_pos hL, dgs_len] at h
    rw [if_pos hL, if_pos ⟨hL, by omega, by omega⟩, dgs_get L _ _ (by omega), dgs_len]
    exact ⟨rfl, by omega⟩
  · rw [if_neg hL] at h
    simp at h; omega
theorem digO_no {L : List Ent} {n : Int} (h : ¬ (0 ≤ n ∧ n ≤ ((digL L).length : Int) - 1)) : digO L n = -1 := by
  unfold digO
  refine if_neg fun hh => h ?_
  unfold digL
  rw [if_pos hh.1, dgs_len]
  omega
set_option maxRecDepth 100000 in
set_option maxHeartbeats 4000000 in
theorem specDigestOfA (a : Option Addr) (c : Nat) (L : List Ent) (n : Int) (w : World) (hl : L.length ≤ 2097152) (hcap : L.length ≤ c) (ha : AtE w a L) :
    Calls Tryz.prog 36 #[.slice a L.length c, .int .i64 n] w fun e w' => e = .returned (.int .i64 (digO L n)) ∧ Below w.heap.size w w' := by
  have C1 := Lib.hid (specDigestListA a c L w hl hcap ha)
  have hlen := digL_len L
  clear ha
  by_cases hin : 0 ≤ n ∧ n ≤ ((digL L).length : Int) - 1
  · obtain ⟨h1, h2⟩ := digO_yes hin
    have HF := Lib.hid h1
    clear h1
    generalize digL L = D at *
    generalize hzD : D.getD n.toNat 0 = z at HF
    have HZ := Lib.hid hzD
    clear hzD
    have C2 := fun W => Lib.hid (in_true n 0 ((D.length : Int) - 1) W hin.1 hin.2)
    have hw : IntKind.i64.wrap ((D.length : Int) - 1) = (D.length : Int) - 1 := IntWalk.i64_in _ (by omega)
    go_enter Tryz.func36, Tryz.ntmps36
    have k3 := hin.1
    have k5 : n < (D.length : Int) := by omega
    clear hin
    go_wp2_with (first
      | (go_at_call 74; refine (C1.out).mono ?_; rintro e w1 ⟨v, rfl, ho, hb1⟩; obtain ⟨y, q, rfl, _, _, hat, _⟩ := ho.form; obtain ⟨x, rfl, hx, hc⟩ := hat n.toNat h2; rw [HZ.out] at hc; clear hat ho)
      | (go_at_call 34; refine ((C2 _).out).mono ?_; rintro e w2 ⟨rfl, rfl⟩))
    go_ret
    exact ⟨by rw [HF.out]; rfl, hb1⟩
  · have HF := Lib.hid (digO_no hin)
    generalize digL L = D at *
    have C2 := fun W => Lib.hid (in_false n 0 ((D.length : Int) - 1) W (by omega))
    have hw : IntKind.i64.wrap ((D.length : Int) - 1) = (D.length : Int) - 1 := IntWalk.i64_in _ (by omega)
    clear hin
    go_enter Tryz.func36, Tryz.ntmps36
    go_wp2_with (first
      | (go_at_call 74; refine (C1.out).mono ?_; rintro e w1 ⟨v, rfl, ho, hb1⟩; obtain ⟨y, q, rfl, -, -, -, -⟩ := ho.form; clear ho)
      | (go_at_call 34; refine ((C2 _).out).mono ?_; rintro e w2 ⟨rfl, rfl⟩))
    go_ret
    exact ⟨by rw [HF.out]; rfl, hb1⟩
theorem specDigestOf (b : Nat) (v : Value) (L : List Ent) (n : Int) (w : World) (h : L.length ≤ 2097152) (o : OwnE b w v L) :
    Calls Tryz.prog 36 #[v, .int .i64 n] w fun e w' => e = .returned (.int .i64 (digO L n)) ∧ Below w.heap.size w w' := by
  obtain ⟨a, c, rfl, hc, _, at1, _⟩ := o.form
  exact specDigestOfA a c L n w h hc at1
end Go.Proofs.YtpdpejlcilnafaaGreatDoor.kit
namespace Go.Proofs.YtpdpejlcilnafaaGreatDoor.kit
open Go.ChangeShapes Go.WideShapes Go.ChangeAt Go.RowKit Go.Shelf
set_option linter.unusedVariables false
attribute [local go_sem] Oper.semAt_some

/-- the first n lengths, each with its digest -/
def prs (L : List Ent) (n : Nat) : List (Int × Int) := (List.range n).map fun k : Nat => ((k : Int), dg L k)
theorem prs_succ (L : List Ent) (n : Nat) : prs L (n + 1) = prs L n ++ [((n : Int), dg L n)] := by simp [prs, List.range_succ]
theorem prs_len (L : List Ent) (n : Nat) : (prs L n).length = n := by simp [prs]
def prL (L : List Ent) : List (Int × Int) := if LOk L then prs L (L.length + 1) else []
abbrev encs (p : Int × Int) : Array Value := #[.int .i64 p.1, .int .i64 p.2]
theorem prs_pre (L : List Ent) (k n : Nat) (h : k ≤ n) : prs L k <+: prs L n := by
  obtain ⟨d, rfl⟩ := Nat.exists_eq_add_of_le h
  unfold prs
  rw [List.range_add, List.map_append]
  exact List.prefix_append _ _
def fnd (m : Int) (ps : List (Int × Int)) : Option (Int × Int) := ps.find? fun p => p.1 == m
theorem fnd_hit {m : Int} {pre : List (Int × Int)} {x : Int × Int} (h : fnd m pre = none) (hx : x.1 = m) : fnd m (pre ++ [x]) = some x := by
  unfold fnd at *; rw [List.find?_append, h]; simp [hx]
theorem fnd_miss {m : Int} {pre : List (Int × Int)} {x : Int × Int} (h : fnd m pre = none) (hx : ¬ x.1 = m) : fnd m (pre ++ [x]) = none := by
  unfold fnd at *; rw [List.find?_append, h]; simp [hx]
theorem fnd_pre {m : Int} {pre ps : List (Int × Int)} {x : Int × Int} (h : fnd m pre = some x) (hp : pre <+: ps) : fnd m ps = some x := by
  obtain ⟨t, rfl⟩ := hp
  unfold fnd at *; rw [List.find?_append, h]; rfl
theorem fnd_prs (L : List Ent) (m : Int) : ∀ n : Nat, fnd m (prs L n) = if 0 ≤ m ∧ m < (n : Int) then some (m, dg L m.toNat) else none
  | 0 => by
    rw [if_neg (by omega)]; rfl
  | n + 1 => by
    have ih := fnd_prs L m n
    rw [prs_succ]
    by_cases h : 0 ≤ m ∧ m < (n : Int)
    · rw [if_pos h] at ih
      rw [if_pos (by omega)]
      exact fnd_pre ih (List.prefix_append _ _)
    · rw [if_neg h] at ih
      by_cases e : (n : Int) = m
      · rw [fnd_hit ih e, if_pos (by omega)]
        subst e
        rfl
      · rw [fnd_miss ih e, if_neg (by omega)]
theorem digO_fnd (L : List Ent) (m : Int) : digO L m = ((fnd m (prL L)).map (·.2)).getD (-1) := by
  unfold digO prL
  by_cases h : LOk L
  · rw [if_pos h, fnd_prs]
    by_cases hm : 0 ≤ m ∧ m ≤ L.length
    · rw [if_pos ⟨h, hm.1, hm.2⟩, if_pos (by omega)]; rfl
    · rw [if_neg (fun hh => hm hh.2), if_neg (by omega)]; rfl
  · rw [if_neg (fun hh => h hh.1), if_neg h]; rfl
theorem digL_prs (L : List Ent) : digL L = (prL L).map (·.2) := by
  unfold digL prL
  by_cases h : LOk L
  · rw [if_pos h, if_pos h]; simp [dgs, prs]
  · rw [if_neg h, if_neg h]; rfl

theorem implPrefixDigests (a : Option Addr) (n c : Nat) (w : World) : Calls Tryz.prog 68 #[.slice a n c] w fun e w' => e = .returned (.func (.func 99) #[] #[.pointer (some ⟨w.heap.size, 0, none⟩)]) ∧ w' = w.alloc (.cells #[.slice a n c] 24) := by
  go_enter Tryz.func68, Tryz.ntmps68
  go_wp2_with fail
  go_ret
  exact ⟨rfl, rfl⟩
/-- what a round of the loop keeps -/
def KpD (n₀ Bn : Nat) (W W' : World) : Prop := Below n₀ W W' ∧ W'.heap[Bn]? = W.heap[Bn]?
theorem abide {β : Type} {B : Nat} {J : β → World → Prop} (hJ : AbidesFrom B J) {s : β} {W W' : World} (h : J s W) (hb : Below W.heap.size W W') : J s W' :=
  hJ s W W' none h ⟨hb.os, hb.tape, hb.output, hb.size, fun k hk _ => hb.block k hk⟩ (fun r e => by cases e)
theorem boxed_later {W W' : World} {B : Nat} {t : TypeId} {v : Value} (h : Boxed W B t v) (hb : Below W.heap.size W W') : Boxed W' B t v := (hb.block B h.lt).trans h
set_option maxRecDepth 100000 in
set_option maxHeartbeats 4000000 in
theorem iter_in (n : Nat) (hn : 1 ≤ n) (l Bn : Nat) (a : Option Addr) (c : Nat) (L : List Ent) (hl : L.length ≤ 2097152) (hcap : L.length ≤ c) (J Jx : List (Int × Int) → World → Prop)
    (w0 W : World) (ha : AtE w0 a L) (hT : Tab w0) (hW0 : Below w0.heap.size w0 W) (hJA : AbidesFrom W.heap.size J) (hJxA : AbidesFrom W.heap.size Jx)
    (hY : ∀ pre x W1, J pre W1 → pre.length < L.length + 1 → YieldAt Fence.wide (n - 1) Tryz.prog l (encs x) W1 fun e W' => (e = .returned (.bool true) ∧ J (pre ++ [x]) W' ∧ KpD w0.heap.size Bn W1 W') ∨ (e = .returned (.bool false) ∧ Jx (pre ++ [x]) W'))
    (hB : Boxed W Bn 24 (.slice a L.length c)) (h0 : J [] W) :
    CallsIn Fence.wide n Tryz.prog 99 #[.func (.yield l) #[] #[], .pointer (some ⟨Bn, 0, none⟩)] W fun e W' => (∃ v, e = .returned v) ∧ ((∃ ys, ys = prL L ∧ J ys W') ∨ (∃ pre, pre <+: prL L ∧ Jx pre W')) := by
  have C1 := Lib.hid (implIsLogA a c L W hl (ha.later hW0))
  have HA := Lib.hid ha
  have HT := Lib.hid hT
  have HY := Lib.hid hY
  have HJ := Lib.hid hJA
  have H0 := Lib.hid h0
  have HBX := Lib.hid hB
  have HW0 := Lib.hid hW0
  have hc := hB.cell
  clear ha hT hY hJA hJxA h0 hB hW0
  by_cases he : LOk L
  · have HF := Lib.hid (show prL L = prs L (L.length + 1) by unfold prL; rw [if_pos he])
    have h16 := he.2
    rw [decide_eq_true he] at C1
    clear he
    refine callsIn_of_wp Tryz.func99 rfl trivial ?_ rfl
    simp only [Tryz.ntmps99, List.size_toArray, List.length_cons, List.length_nil, Nat.reduceAdd, Nat.reduceSub, Array.replicate_succ, Array.replicate_zero, List.push_toArray, List.append_toArray, List.nil_append, List.cons_append]
    gi_wp2_with (refine ⟨trivial, ?_⟩; gi_at_call 29; refine (callsIn_wide.2 C1.out).mono ?_; rintro e w1 ⟨rfl, hb1⟩; have HB1 := Lib.hid (boxed_later HBX.out hb1); have hc1 := HB1.out.cell)
    have HJ1 := Lib.hid (abide HJ.out H0.out hb1)
    have HW1 := Lib.hid (HW0.out.trans (hb1.mono HW0.out.size))
    clear hb1 hc1 hc C1
    gi_loopw [3, 4, 10] (fun d _ i wr => ∃ k : Nat, k ≤ L.length ∧ i = .int .i64 k ∧ d = .int .i64 (dg L k) ∧ Hid (J (prs L k) wr) ∧ Hid (Below w0.heap.size w0 wr) ∧ Hid (Boxed wr Bn 24 (.slice a L.length c))) (fun _ _ i _ => L.length - (intOf i).toNat)
    case atStart => exact ⟨0, Nat.zero_le _, rfl, rfl, HJ1, HW1, HB1⟩
    case round =>
      obtain ⟨k, hk, rfl, rfl, HJr, HWr, HBr⟩ := hrel
      obtain ⟨fn, tmps, assign, body, hy, hR⟩ := HY.out (prs L k) ((k : Int), dg L k) wr HJr.out (by rw [prs_len]; omega)
      rw [← prs_succ] at hR
      dsimp only [encs] at hy
      by_cases hlt : k < L.length
      · have hd := dg_in L k
        have HD := Lib.hid (show dg L (k + 1) = (dg L k * 31 + cksum (fmtL [gE L k])) % 9973 from rfl)
        have HPRE := Lib.hid (prs_pre L (k + 1) (L.length + 1) (by omega))
        have R := fun W => run_oneE W a L.length c k (by omega)
        have J1 := fun W (h : Below w0.heap.size w0 W) => Lib.hid (implOneE a c k L W (HA.out.later h) hlt (HT.out.below h))
        have J2 := fun W => Lib.hid (implChecksumL (fmtL [gE L k]) W (by have := fmtL_len [gE L k]; omega))
        have hcs := cksum_in (fmtL [gE L k])
        generalize cksum (fmtL [gE L k]) = cs at *
        generalize fmtL [gE L k] = fl at *
        generalize dg L k = d at *
        have hw1 : IntKind.i64.wrap (31 * d) = 31 * d := IntWalk.i64_in _ (by omega)
        have hw2 : IntKind.i64.wrap (31 * d + cs) = 31 * d + cs := IntWalk.i64_in _ (by omega)
        have hw3 : (31 * d + cs).tmod 9973 = (31 * d + cs) % 9973 := Int.tmod_eq_emod_of_nonneg (by omega)
        have hw4 : IntKind.i64.wrap ((31 * d + cs) % 9973) = (31 * d + cs) % 9973 := IntWalk.i64_in _ (by have := Int.emod_nonneg (31 * d + cs) (show (9973 : Int) ≠ 0 by decide); have := Int.emod_lt_of_pos (31 * d + cs) (show (0 : Int) < 9973 by decide); omega)
        have hw5 : IntKind.i64.wrap ((k : Int) + 1) = (k : Int) + 1 := IntWalk.i64_in _ (by omega)
        have t1 : decide ((k : Int) < (L.length : Int)) = true := decide_eq_true (by omega)
        gi_wp2
        refine hR.mono ?_
        rintro e W3 (⟨rfl, hJ3, hk3⟩ | ⟨rfl, hJx3⟩)
        · have HW3 := Lib.hid (HWr.out.trans hk3.1)
          have HB3 := Lib.hid (show Boxed W3 Bn 24 (.slice a L.length c) from hk3.2.trans HBr.out)
          have HJ3 := Lib.hid hJ3
          have hc3 := HB3.out.cell
          clear hJ3 hk3
          gi_wp2_with (first
            | (refine ⟨trivial, ?_⟩; gi_at_call 100; refine (callsIn_wide.2 (J1 _ HW3.out).out).mono ?_; rintro e w4 ⟨rfl, hb4⟩)
            | (refine ⟨trivial, ?_⟩; gi_at_call 86; refine (callsIn_wide.2 (J2 _).out).mono ?_; rintro e w5 ⟨rfl, hb5⟩))
          go_roundw
          case rel => exact ⟨k + 1, by omega, by go_num, by rw [HD.out, Int.mul_comm], Lib.hid (abide HJ.out HJ3.out (hb4.trans (hb5.mono hb4.size))), Lib.hid (HW3.out.trans ((hb4.trans (hb5.mono hb4.size)).mono HW3.out.size)), Lib.hid (boxed_later HB3.out (hb4.trans (hb5.mono hb4.size)))⟩
          case measure => simp [intOf]; omega
        · gi_wp2
          refine bodyPost_ret (results_none rfl _ _ _) rfl ?_
          exact ⟨⟨_, rfl⟩, .inr ⟨_, by rw [HF.out]; exact HPRE.out, hJx3⟩⟩
      · obtain rfl : k = L.length := by omega
        have hc3 := HBr.out.cell
        clear hlt hk
        gi_wp2
        refine hR.mono ?_
        rintro e W3 (⟨rfl, hJ3, hk3⟩ | ⟨rfl, hJx3⟩)
        · gi_wp2
          go_end0
          exact ⟨⟨_, rfl⟩, .inl ⟨_, by rw [HF.out], hJ3⟩⟩
        · gi_wp2
          go_end0
          exact ⟨⟨_, rfl⟩, .inr ⟨_, by rw [HF.out]; exact List.prefix_refl _, hJx3⟩⟩
  · have HF := Lib.hid (show prL L = [] by unfold prL; rw [if_neg he])
    rw [decide_eq_false he] at C1
    clear he
    refine callsIn_of_wp Tryz.func99 rfl trivial ?_ rfl
    simp only [Tryz.ntmps99, List.size_toArray, List.length_cons, List.length_nil, Nat.reduceAdd, Nat.reduceSub, Array.replicate_succ, Array.replicate_zero, List.push_toArray, List.append_toArray, List.nil_append, List.cons_append]
    gi_wp2_with (refine ⟨trivial, ?_⟩; gi_at_call 29; refine (callsIn_wide.2 C1.out).mono ?_; rintro e w1 ⟨rfl, hb1⟩)
    refine bodyPost_ret (results_none rfl _ _ _) rfl ?_
    exact ⟨⟨_, rfl⟩, .inl ⟨_, by rw [HF.out], abide HJ.out H0.out hb1⟩⟩
end Go.Proofs.YtpdpejlcilnafaaGreatDoor.kit
namespace Go.Proofs.YtpdpejlcilnafaaGreatDoor.kit
open Go.ChangeShapes Go.WideShapes Go.ChangeAt Go.RowKit Go.Shelf
set_option linter.unusedVariables false
attribute [local go_sem] Oper.semAt_some

theorem iter_stops (n : Nat) (hn : 1 ≤ n) (Bn : Nat) (a : Option Addr) (c : Nat) (L : List Ent) (hl : L.length ≤ 2097152) (hcap : L.length ≤ c) (w0 w1 : World) (ha : AtE w0 a L) (hT : Tab w0) (hW0 : Below w0.heap.size w0 w1) (hB : Boxed w1 Bn 24 (.slice a L.length c)) :
    SeqStopsK Fence.wide n Tryz.prog 99 #[.pointer (some ⟨Bn, 0, none⟩)] encs (KpD w0.heap.size Bn) (fun ys => ys = prL L) (fun pre => pre <+: prL L) (L.length + 1) w1 := fun l J Jx W hW hJ hJx hY h0 =>
  iter_in n hn l Bn a c L hl hcap J Jx w0 W ha hT (hW0.trans (hW.mono hW0.size)) hJ hJx hY (boxed_later hB hW) h0
theorem kpT {n₀ Bn : Nat} {A B C : World} (h : KpD n₀ Bn A B) (k : KpD n₀ Bn B C) : KpD n₀ Bn A C := ⟨h.1.trans k.1, k.2.trans h.2⟩
theorem kpB {n₀ Bn : Nat} {w : World} (hn : n₀ ≤ w.heap.size) (hB : Bn < w.heap.size) (W : World) (l : Nat) (o o' : Obj) (hl : w.heap.size ≤ l) (h : W.heap[l]? = some o) (h1 : o.isCells = false) (h2 : o.isWalk = false) : KpD n₀ Bn W (W.putObj l o') :=
  ⟨belowK_b hn W l o o' hl h h1 h2, World.putObj_heap_other (by omega)⟩
theorem cell_new_d (W : World) (v : Value) (t : TypeId) : (W.alloc (.cells #[v] t)).cell? ⟨W.heap.size, 0, none⟩ = some v ∧ (W.alloc (.cells #[v] t)).frozen? ⟨W.heap.size, 0, none⟩ = false :=
  ⟨(Boxed.new W t v).cell, (Boxed.new W t v).frozen⟩
theorem cell_alloc_d {W : World} {a : Addr} {v : Value} (o : Obj) (h : W.cell? a = some v) : (W.alloc o).cell? a = some v := cell_kept h (World.grownBy_alloc W o none) (fun r e => by cases e)
theorem frozen_alloc_d {W : World} {a : Addr} {v : Value} (o : Obj) (h : W.cell? a = some v) (hf : W.frozen? a = false) : (W.alloc o).frozen? a = false := (frozen_kept h (World.grownBy_alloc W o none) (fun r e => by cases e)).trans hf
set_option maxRecDepth 100000 in
set_option maxHeartbeats 4000000 in
theorem implDigestOfA (a : Option Addr) (c : Nat) (L : List Ent) (m : Int) (w : World) (hl : L.length ≤ 2097152) (hcap : L.length ≤ c) (ha : AtE w a L) (hT : Tab w) :
    Calls Tryz.prog 31 #[.slice a L.length c, .int .i64 m] w fun e w' => e = .returned (.int .i64 (digO L m)) ∧ Below w.heap.size w w' := by
  rw [digO_fnd]
  refine (callsIn_wide (n := 5)).1 ?_
  refine callsIn_of_wp_marks Tryz.func31 rfl trivial ?_ rfl
  simp only [Tryz.ntmps31, List.size_toArray, List.length_cons, List.length_nil, Nat.reduceAdd, Nat.reduceSub, Array.replicate_succ, Array.replicate_zero, List.push_toArray, List.append_toArray, List.nil_append, List.cons_append]
  gi_wp2_with (refine ⟨trivial, ?_⟩; gi_at_call 68; refine (callsIn_wide.2 (implPrefixDigests _ _ _ _)).mono ?_; rintro e w' ⟨rfl, rfl⟩)
  have c0 := cell_new_d w (.int .i64 m) 3
  have c1 := cell_new_d (w.alloc (.cells #[.int .i64 m] 3)) (.int .i64 0) 3
  have c2 := Boxed.new ((w.alloc (.cells #[.int .i64 m] 3)).alloc (.cells #[.int .i64 0] 3)) 24 (.slice a L.length c)
  simp only [World.size_alloc] at c1 c2
  have hB0 : Below w.heap.size w (((w.alloc (.cells #[.int .i64 m] 3)).alloc (.cells #[.int .i64 0] 3)).alloc (.cells #[.slice a L.length c] 24)) := (((Below.refl _ w).alloc (Nat.le_refl _) _).alloc (by simp) _).alloc (by simp; omega) _
  refine wpIn_rangeFunc_ownF rfl (by decide) (gf := 99) (lb := #[.pointer (some ⟨w.heap.size + 1 + 1, 0, none⟩)]) rfl trivial (enters_of Tryz.func99 (by kernel_rfl) rfl)
    (iter_stops _ (by decide) (w.heap.size + 1 + 1) a c L hl hcap w _ ha hT hB0 c2) (fun h k => kpT h k) (kpB (by simp; omega) (by simp)) (Below.refl _ _) (fun _ => rfl)
    (fun pre W => (fnd m pre = none ∧ W.cell? ⟨w.heap.size, 0, none⟩ = some (.int .i64 m) ∧ W.cell? ⟨w.heap.size + 1, 0, none⟩ = some (.int .i64 0) ∧ W.frozen? ⟨w.heap.size + 1, 0, none⟩ = false) ∧ Below w.heap.size w W)
    (fun q pre W => (q = .ret ∧ ∃ p, fnd m pre = some p ∧ W.cell? ⟨w.heap.size + 1, 0, none⟩ = some (.int .i64 p.2)) ∧ Below w.heap.size w W)
    (OwnFrom.and (Own.from (fun s A B row hs hg hr => ⟨hs.1, cell_kept hs.2.1 hg hr, cell_kept hs.2.2.1 hg hr, (frozen_kept hs.2.2.1 hg hr).trans hs.2.2.2⟩) _) (ownFrom_below (Nat.le_refl _) (by simp; omega)))
    (fun q => OwnFrom.and (Own.from (fun s A B row hs hg hr => by obtain ⟨hq, p, hp, hcell⟩ := hs; exact ⟨hq, p, hp, cell_kept hcell hg hr⟩) _) (ownFrom_below (Nat.le_refl _) (by simp; omega)))
    ⟨⟨rfl, cell_alloc_d _ (cell_alloc_d _ c0.1), cell_alloc_d _ c1.1, frozen_alloc_d _ c1.1 c1.2⟩, hB0⟩
    (fun x => { tmps := #[.slice a L.length c, .int .i64 m, undef, .pointer (some ⟨w.heap.size, 0, none⟩), .pointer (some ⟨w.heap.size + 1, 0, none⟩), .int .i64 x.1, .int .i64 x.2, .slice a L.length c, .func (.func 99) #[] #[.pointer (some ⟨w.heap.size + 1 + 1, 0, none⟩)], .int .i64 x.1, .int .i64 x.2, undef, undef, undef, undef], defers := [] }) ?assign ?body ?done ?stop
  case assign =>
    intro l x W K hK
    gi_wp2
    exact hK
  case body =>
    rintro l pre x W ⟨⟨hp, hcw, hcr, hfr⟩, hB⟩ _
    by_cases hx : x.1 = m
    · have t1 : (x.1 == m) = true := by rw [beq_iff_eq]; exact hx
      gi_wp2
      exact ⟨KeepsOthers.setCell _ _ _, ⟨rfl, x, fnd_hit hp hx, World.cell?_setCell_same' _ _ _ (by rw [hcr]; rfl)⟩, hB.setCell (p := ⟨w.heap.size + 1, 0, none⟩) (by simp) _⟩
    · have t1 : (x.1 == m) = false := by rw [beq_eq_false_iff_ne]; exact hx
      gi_wp2
      exact ⟨KeepsOthers.refl _, ⟨Below.refl _ _, rfl⟩, ⟨fnd_miss hp hx, hcw, hcr, hfr⟩, hB⟩
  case done =>
    rintro D ys W hD rfl ⟨⟨hne, _, hcr, hfr⟩, hB⟩ hK
    gi_wp2
    have hK' := (KeepsOthers.setCell W ⟨w.heap.size + 1, 0, none⟩ (.int .i64 (-1))).same D _ hK rfl
    refine ⟨by simp, .inl ⟨_, _, rfl, run_takeDeferred hK', ?_⟩⟩
    have hc5 := cell_kept (World.cell?_setCell_same' W ⟨w.heap.size + 1, 0, none⟩ (.int .i64 (-1)) (by rw [hcr]; rfl)) (grownBy_putObj' _ D (.deferred none)) (fun r e => by cases e; exact ⟨_, hK', rfl⟩)
    refine ⟨.int .i64 (-1), ?_, by rw [hne]; rfl, (hB.setCell (p := ⟨w.heap.size + 1, 0, none⟩) (by simp) _).trans (belowK_b (w := w) (Nat.le_refl _) _ D _ _ (by simp at hD; omega) hK' rfl rfl)⟩
    simp [results, Tryz.f31, go_sem, hc5]
  case stop =>
    rintro D q pre W hD hpre ⟨⟨rfl, p, hp, hcr⟩, hB⟩ hK
    gi_wp2
    refine ⟨by simp, .inl ⟨_, _, rfl, run_takeDeferred hK, ?_⟩⟩
    have hc5 := cell_kept hcr (grownBy_putObj' _ D (.deferred none)) (fun r e => by cases e; exact ⟨_, hK, rfl⟩)
    refine ⟨.int .i64 p.2, ?_, by rw [fnd_pre hp hpre]; rfl, hB.trans (belowK_b (w := w) (Nat.le_refl _) W D _ _ (by simp at hD; omega) hK rfl rfl)⟩
    simp [results, Tryz.f31, go_sem, hc5]
theorem implDigestOf (b : Nat) (v : Value) (L : List Ent) (n : Int) (w : World) (h : L.length ≤ 2097152) (o : OwnE b w v L) (hT : Tab w) :
    Calls Tryz.prog 31 #[v, .int .i64 n] w fun e w' => e = .returned (.int .i64 (digO L n)) ∧ Below w.heap.size w w' := by
  obtain ⟨a, c, rfl, hc, _, at1, _⟩ := o.form
  exact implDigestOfA a c L n w h hc at1 hT
end Go.Proofs.YtpdpejlcilnafaaGreatDoor.kit
namespace Go.Proofs.YtpdpejlcilnafaaGreatDoor.kit
open Go.ChangeShapes Go.WideShapes Go.ChangeAt Go.RowKit Go.Deep
set_option linter.unusedVariables false

end Go.Proofs.YtpdpejlcilnafaaGreatDoor.kit
namespace Go.Proofs.YtpdpejlcilnafaaGreatDoor.kit
open Go.ChangeShapes Go.WideShapes Go.ChangeAt Go.RowKit
set_option linter.unusedVariables false

/-- the block b holds these cells, none of them frozen -/
def BoxC (W : World) (b : Nat) (t : TypeId) (cs : Array Value) : Prop := W.heap[b]? = some (.cells cs t (0, 0))
theorem BoxC.lt {W : World} {b : Nat} {t : TypeId} {cs : Array Value} (h : BoxC W b t cs) : b < W.heap.size := (Array.getElem?_eq_some_iff.1 h).1
theorem BoxC.c {W : World} {b : Nat} {t : TypeId} {cs : Array Value} (h : BoxC W b t cs) (j : Nat) {v : Value} (hv : cs[j]? = some v) : W.cell? ⟨b, j, none⟩ = some v := by simp [World.cell?, show W.heap[b]? = _ from h, hv]
theorem BoxC.f {W : World} {b : Nat} {t : TypeId} {cs : Array Value} (h : BoxC W b t cs) (q : Nat) : W.frozen? ⟨b, q, none⟩ = false := by simp [World.frozen?, show W.heap[b]? = _ from h]
theorem BoxC.later {W W' : World} {b : Nat} {t : TypeId} {cs : Array Value} (h : BoxC W b t cs) (hb : Below W.heap.size W W') : BoxC W' b t cs := (hb.block b h.lt).trans h
theorem BoxC.new (W : World) (t : TypeId) (cs : Array Value) : BoxC (W.alloc (.cells cs t)) W.heap.size t cs := heap_alloc_new W _
theorem BoxC.put {W : World} {b : Nat} {t : TypeId} {cs : Array Value} (h : BoxC W b t cs) (j : Nat) (u : Value) : BoxC (W.setCell ⟨b, j, none⟩ u) b t (cs.setIfInBounds j u) := by
  obtain ⟨hlt, hk⟩ := Array.getElem?_eq_some_iff.1 h
  show (W.heap.modify b _)[b]? = _
  rw [Array.getElem?_eq_getElem (by rw [Array.size_modify]; exact hlt), Array.getElem_modify_self, hk]
  rfl
theorem BoxC.keep {W : World} {b b' : Nat} {t : TypeId} {cs : Array Value} (h : BoxC W b t cs) (hne : b ≠ b') (j : Nat) (u : Value) : BoxC (W.setCell ⟨b', j, none⟩ u) b t cs :=
  (Below.heap_setCell _ _ _ _ (by simpa using hne)).trans h
theorem BoxC.grown {W W' : World} {b g : Nat} {t : TypeId} {cs : Array Value} (h : BoxC W b t cs) (hg : W.grownBy W' (some g)) (hne : b ≠ g) : BoxC W' b t cs := (hg.block b h.lt (fun e => hne (Option.some.inj e))).trans h
def isC (N : Nat) (t : TypeId) (cs : Array Value) : Value → World → Prop := fun v w => ∃ p, v = .pointer (some ⟨p, 0, none⟩) ∧ BoxC w p t cs ∧ N ≤ p
theorem isC_mono (N : Nat) (t : TypeId) (cs : Array Value) : ∀ v w w', isC N t cs v w → Below w.heap.size w w' → isC N t cs v w' := fun _ _ _ ⟨p, h, h1, h2⟩ hb => ⟨p, h, h1.later hb, h2⟩
end Go.Proofs.YtpdpejlcilnafaaGreatDoor.kit
namespace Go.Proofs.YtpdpejlcilnafaaGreatDoor.kit
open Go.ChangeShapes Go.WideShapes Go.ChangeAt Go.RowKit
set_option linter.unusedVariables false
set_option linter.unusedSimpArgs false

def tkOk (L : List Ent) (n : Int) : Prop := LOk L ∧ 0 ≤ n ∧ n ≤ (L.length : Int)
instance (L : List Ent) (n : Int) : Decidable (tkOk L n) := inferInstanceAs (Decidable (_ ∧ _ ∧ _))
def tkB (L : List Ent) (n : Int) : Bool := decide (tkOk L n)
def tkX (L : List Ent) (n : Int) : Int := if tkOk L n then n else 0
def tkY (L : List Ent) (n : Int) : Int := if tkOk L n then digO L n else 0
def tkO (L : List Ent) (n : Int) : List Int := if tkOk L n then (rep L n.toNat).1 else []
def tkS (L : List Ent) (n : Int) : List Sess := if tkOk L n then (rep L n.toNat).2 else []
theorem tkO_len (L : List Ent) (n : Int) : (tkO L n).length ≤ 4194304 := by
  unfold tkO
  split
  · exact (rep_len L _).1
  · simp
theorem tkS_len (L : List Ent) (n : Int) : (tkS L n).length ≤ 4194304 := by
  unfold tkS
  split
  · exact (rep_len L _).2
  · simp
theorem tk_no {L : List Ent} {n : Int} (h : ¬ tkOk L n) : tkB L n = false ∧ tkX L n = 0 ∧ tkY L n = 0 ∧ tkO L n = [] ∧ tkS L n = [] := ⟨decide_eq_false h, if_neg h, if_neg h, if_neg h, if_neg h⟩
theorem tk_yes {L : List Ent} {n : Int} (h : tkOk L n) : tkB L n = true ∧ tkX L n = n ∧ tkY L n = digO L n ∧ tkO L n = (rep L n.toNat).1 ∧ tkS L n = (rep L n.toNat).2 := ⟨decide_eq_true h, if_pos h, if_pos h, if_pos h, if_pos h⟩
theorem dg_take {L : List Ent} {n : Nat} (hn : n ≤ L.length) : ∀ k, k ≤ n → dg (L.take n) k = dg L k
  | 0, _ => rfl
  | k + 1, h => by
    show (dg (L.take n) k * 31 + cksum (fmtL [gE (L.take n) k])) % 9973 = (dg L k * 31 + cksum (fmtL [gE L k])) % 9973
    rw [dg_take hn k (by omega), gE_take (by omega)]
theorem digO_take {L : List Ent} {n : Nat} (h : LOk L) (hn : n ≤ L.length) : digO (L.take n) (n : Int) = digO L (n : Int) := by
  unfold digO
  rw [if_pos ⟨h.take n, by omega, by rw [List.length_take]; omega⟩, if_pos ⟨h, by omega, by omega⟩, Int.toNat_natCast, dg_take hn n (Nat.le_refl _)]
theorem rep_taken {L : List Ent} {n : Nat} (hn : n ≤ L.length) : rep (L.take n) (L.take n).length = rep L n := by
  rw [List.length_take, Nat.min_eq_left hn]
  exact rep_take L n n (Nat.le_refl _)
theorem replay_taken {L : List Ent} {n : Nat} (h : LOk L) (hn : n ≤ L.length) : replayO (L.take n) = (rep L n).1 ∧ replayS (L.take n) = (rep L n).2 := by
  unfold replayO replayS
  rw [if_pos (h.take n), if_pos (h.take n), rep_taken hn]
  exact ⟨rfl, rfl⟩
/-- rows of the call's own are no box of a snapshot -/
theorem BoxC.not_row {W : World} {b : Nat} {t e : TypeId} {cs : Array Value} (h : BoxC W b t cs) (hte : t ≠ e) {base size k : Nat} {v : Value} {xs : List Value} (hr : W.ownsRow base e size v k xs) : v.ownBlock ≠ some b := by
  rcases hr.2 with ⟨rfl, _⟩ | ⟨g, cap, cur, rfl, _, hgb, _⟩
  · simp [Value.ownBlock]
  · intro e'
    obtain rfl : g = b := by simpa [Value.ownBlock] using e'
    have := (show W.heap[g]? = _ from h).symm.trans hgb
    simp at this
    exact hte this.2
/-- four stores into a box: what stays -/
theorem row_set4 {W : World} {base : Nat} {e : TypeId} {size k b : Nat} {v : Value} {xs : List Value} {t : TypeId} {cs : Array Value} (hr : W.ownsRow base e size v k xs) (hb : BoxC W b t cs) (hte : t ≠ e) (x0 x1 x2 x3 : Value) :
    ((((W.setCell ⟨b, 0, none⟩ x0).setCell ⟨b, 1, none⟩ x1).setCell ⟨b, 2, none⟩ x2).setCell ⟨b, 3, none⟩ x3).ownsRow base e size v k xs :=
  ownsRow_setCell_other (ownsRow_setCell_other (ownsRow_setCell_other (ownsRow_setCell_other hr (hb.not_row hte hr) _) (hb.not_row hte hr) _) (hb.not_row hte hr) _) (hb.not_row hte hr) _
theorem below_set4 {B b : Nat} {w W : World} (h : Below B w W) (hb : B ≤ b) (x0 x1 x2 x3 : Value) : Below B w ((((W.setCell ⟨b, 0, none⟩ x0).setCell ⟨b, 1, none⟩ x1).setCell ⟨b, 2, none⟩ x2).setCell ⟨b, 3, none⟩ x3) :=
  (((h.setCell (p := ⟨b, 0, none⟩) hb x0).setCell (p := ⟨b, 1, none⟩) hb x1).setCell (p := ⟨b, 2, none⟩) hb x2).setCell (p := ⟨b, 3, none⟩) hb x3
set_option maxRecDepth 100000 in
set_option maxHeartbeats 8000000 in
theorem implTakeSnapshot (b : Nat) (v : Value) (L : List Ent) (n : Int) (w : World) (h : L.length ≤ 2097152) (o : OwnE b w v L) (hT : Tab w) :
    Calls Tryz.prog 7 #[v, .int .i64 n] w fun e w' => ∃ u1 u2, e = .returned (.tuple #[.agg #[.int .i64 (tkX L n), .int .i64 (tkY L n), u1, u2], .bool (tkB L n)]) ∧ OwnI w.heap.size w' u1 (tkO L n) ∧ OwnS w.heap.size w' u2 (tkS L n) ∧ Below w.heap.size w w' := by
  obtain ⟨a, c, rfl, hcap, hcm, ha, _⟩ := o.form
  obtain ⟨W, hW⟩ : ∃ W, W = w.alloc (.cells #[.int .i64 0, .int .i64 0, .slice none 0 0, .slice none 0 0] 32) := ⟨_, rfl⟩
  have hB : Below w.heap.size w W := by rw [hW]; exact (Below.refl _ _).alloc (Nat.le_refl _) _
  have HR := Lib.hid (show BoxC W w.heap.size 32 #[.int .i64 0, .int .i64 0, .slice none 0 0, .slice none 0 0] by rw [hW]; exact BoxC.new _ _ _)
  have JL := Lib.hid (implIsLogA a c L W h (ha.later hB))
  have hnone : a = none → c = 0 ∧ L = [] := fun h => by
    subst h
    rcases o.2 with ⟨hv, h0⟩ | ⟨g, c', cur, hv, _⟩
    · injection hv with _ _ h3
      exact ⟨h3, List.eq_nil_of_length_eq_zero h0⟩
    · injection hv with h1
      cases h1
  have HNO := Lib.hid hnone
  have HA := Lib.hid ha
  have HB := Lib.hid hB
  have HW := Lib.hid hW
  have HT := Lib.hid hT
  clear hT
  clear hB hW ha o hnone
  by_cases hl : LOk L
  · rw [decide_eq_true hl] at JL
    by_cases h0 : n < 0
    · have HF := Lib.hid (tk_no (fun (hh : tkOk L n) => by have := hh.2.1; omega))
      have g0 : decide (n < 0) = true := decide_eq_true h0
      clear h0 hl
      go_enter Tryz.func7, Tryz.ntmps7
      go_wp2_with fail
      rw [← HW.out]
      refine JL.out.mono ?_
      rintro e w1 ⟨rfl, hb⟩
      replace HR := Lib.hid (HR.out.later hb)
      replace HB := Lib.hid (HB.out.trans (hb.mono HB.out.size))
      clear hb HW
      have r0 := HR.out.c 0 rfl
      have r1 := HR.out.c 1 rfl
      have r2 := HR.out.c 2 rfl
      have r3 := HR.out.c 3 rfl
      have f0 := HR.out.f 0
      have f1 := HR.out.f 1
      have f2 := HR.out.f 2
      have f3 := HR.out.f 3
      go_wp2_with fail
      refine bodyPost_ret (v := .tuple #[.agg #[.int .i64 0, .int .i64 0, .slice none 0 0, .slice none 0 0], .bool false]) (by simp [results, Tryz.results7, go_sem, r0, r1, r2, r3]) rfl ?_
      exact ⟨_, _, by rw [HF.out.1, HF.out.2.1, HF.out.2.2.1], by rw [HF.out.2.2.2.1]; exact World.ownsRow_nil _ _ _ _, by rw [HF.out.2.2.2.2]; exact own_newS _ _, below_set4 HB.out (Nat.le_refl _) _ _ _ _⟩
    · have g0 : decide (n < 0) = false := decide_eq_false h0
      obtain ⟨k, rfl⟩ := Int.eq_ofNat_of_zero_le (show 0 ≤ n by omega)
      by_cases h1 : k ≤ L.length
      · have g1 : decide (L.length < k) = false := decide_eq_false (by omega)
        have HF := Lib.hid (tk_yes (show tkOk L (k : Int) from ⟨hl, by omega, by omega⟩))
        rw [Int.toNat_natCast] at HF
        have HDT := Lib.hid (digO_take hl h1)
        have HRT := Lib.hid (rep_taken (L := L) h1)
        have hlt : (L.take k).length = k := by rw [List.length_take]; omega
        unfold maxLen at hcm
        clear h0 hl
        go_enter Tryz.func7, Tryz.ntmps7
        go_wp2_with fail
        rw [← HW.out]
        refine JL.out.mono ?_
        rintro e w1 ⟨rfl, hb⟩
        replace HR := Lib.hid (HR.out.later hb)
        replace HB := Lib.hid (HB.out.trans (hb.mono HB.out.size))
        clear hb HW
        have jb := fun W' => beforeE a L.length c k W' h1 hcap (by unfold maxLen; omega)
        obtain ⟨a', hs', ha', -⟩ := before_at (c := c) (HA.out.later HB.out) k h1 HNO.out
        rw [hs'] at jb
        have JB := Lib.hid jb
        have HA' := Lib.hid ha'
        have jd := fun W' (hb : Below w1.heap.size w1 W') (t : Tab W') => implDigestOfA a' k (L.take k) (k : Int) W' (by omega) (by omega) (HA'.out.later hb) t
        have jr := fun W' (hb : Below w1.heap.size w1 W') => implReplayedA a' k (L.take k) W' (by omega) (HA'.out.later hb)
        rw [hlt, HDT.out] at jd
        rw [hlt] at jr HRT
        rw [HRT.out] at jr
        have JD := Lib.hid jd
        have JR := Lib.hid jr
        have hl1 := (rep_len L k).1
        have hl2 := (rep_len L k).2
        generalize digO L (k : Int) = dv at *
        generalize rep L k = m at *
        clear jb jd jr ha' hs' HDT hlt HA' HA HNO
        go_wp2_with fail
        refine (JB.out _).mono ?_
        rintro e w2 ⟨rfl, rfl⟩
        go_wp2_with fail
        refine (JD.out _ (Below.refl _ _) (HT.out.below HB.out)).mono ?_
        rintro e w2 ⟨rfl, hb⟩
        have HB2 := Lib.hid hb
        clear hb
        go_wp2_with fail
        refine (JR.out _ HB2.out).mono ?_
        rintro e w3 ⟨u1, u2, rfl, ho1, ho2, hb⟩
        obtain ⟨z1, e1, rfl⟩ := ho1.shape
        obtain ⟨z2, e2, rfl⟩ := ho2.shape
        replace HR := Lib.hid ((HR.out.later HB2.out).later hb)
        have HO1 := Lib.hid (OwnI.mono ho1 (Nat.le_trans HB.out.size HB2.out.size))
        have HO2 := Lib.hid (OwnS.mono ho2 (Nat.le_trans HB.out.size HB2.out.size))
        replace HB := Lib.hid ((HB.out.trans (HB2.out.mono HB.out.size)).trans (hb.mono (Nat.le_trans HB.out.size HB2.out.size)))
        clear hb ho1 ho2 HB2 JD JR JB
        have r0 := HR.out.c 0 rfl
        have r1 := HR.out.c 1 rfl
        have r2 := HR.out.c 2 rfl
        have r3 := HR.out.c 3 rfl
        have f0 := HR.out.f 0
        have f1 := HR.out.f 1
        have f2 := HR.out.f 2
        have f3 := HR.out.f 3
        go_wp2_with fail
        refine bodyPost_ret (v := .tuple #[.agg #[.int .i64 (k : Int), .int .i64 dv, .slice z1 m.1.length e1, .slice z2 m.2.length e2], .bool true]) (by simp [results, Tryz.results7, go_sem, r0, r1, r2, r3]) rfl ?_
        exact ⟨_, _, by rw [HF.out.1, HF.out.2.1, HF.out.2.2.1], by rw [HF.out.2.2.2.1]; exact row_set4 HO1.out HR.out (by decide) _ _ _ _, by rw [HF.out.2.2.2.2]; exact row_set4 HO2.out HR.out (by decide) _ _ _ _, below_set4 HB.out (Nat.le_refl _) _ _ _ _⟩
      · have g1 : decide (L.length < k) = true := decide_eq_true (by omega)
        have HF := Lib.hid (tk_no (fun (hh : tkOk L (k : Int)) => by have := hh.2.2; omega))
        clear h0 h1 hl
        go_enter Tryz.func7, Tryz.ntmps7
        go_wp2_with fail
        rw [← HW.out]
        refine JL.out.mono ?_
        rintro e w1 ⟨rfl, hb⟩
        replace HR := Lib.hid (HR.out.later hb)
        replace HB := Lib.hid (HB.out.trans (hb.mono HB.out.size))
        clear hb HW
        have r0 := HR.out.c 0 rfl
        have r1 := HR.out.c 1 rfl
        have r2 := HR.out.c 2 rfl
        have r3 := HR.out.c 3 rfl
        have f0 := HR.out.f 0
        have f1 := HR.out.f 1
        have f2 := HR.out.f 2
        have f3 := HR.out.f 3
        go_wp2_with fail
        refine bodyPost_ret (v := .tuple #[.agg #[.int .i64 0, .int .i64 0, .slice none 0 0, .slice none 0 0], .bool false]) (by simp [results, Tryz.results7, go_sem, r0, r1, r2, r3]) rfl ?_
        exact ⟨_, _, by rw [HF.out.1, HF.out.2.1, HF.out.2.2.1], by rw [HF.out.2.2.2.1]; exact World.ownsRow_nil _ _ _ _, by rw [HF.out.2.2.2.2]; exact own_newS _ _, below_set4 HB.out (Nat.le_refl _) _ _ _ _⟩
  · rw [decide_eq_false hl] at JL
    have HF := Lib.hid (tk_no (fun (hh : tkOk L n) => hl hh.1))
    clear hl
    go_enter Tryz.func7, Tryz.ntmps7
    go_wp2_with fail
    rw [← HW.out]
    refine JL.out.mono ?_
    rintro e w1 ⟨rfl, hb⟩
    replace HR := Lib.hid (HR.out.later hb)
    replace HB := Lib.hid (HB.out.trans (hb.mono HB.out.size))
    clear hb HW
    have r0 := HR.out.c 0 rfl
    have r1 := HR.out.c 1 rfl
    have r2 := HR.out.c 2 rfl
    have r3 := HR.out.c 3 rfl
    have f0 := HR.out.f 0
    have f1 := HR.out.f 1
    have f2 := HR.out.f 2
    have f3 := HR.out.f 3
    go_wp2_with fail
    refine bodyPost_ret (v := .tuple #[.agg #[.int .i64 0, .int .i64 0, .slice none 0 0, .slice none 0 0], .bool false]) (by simp [results, Tryz.results7, go_sem, r0, r1, r2, r3]) rfl ?_
    exact ⟨_, _, by rw [HF.out.1, HF.out.2.1, HF.out.2.2.1], by rw [HF.out.2.2.2.1]; exact World.ownsRow_nil _ _ _ _, by rw [HF.out.2.2.2.2]; exact own_newS _ _, below_set4 HB.out (Nat.le_refl _) _ _ _ _⟩
set_option maxRecDepth 100000 in
set_option maxHeartbeats 8000000 in
theorem specTakeSnapshot (b : Nat) (v : Value) (L : List Ent) (n : Int) (w : World) (h : L.length ≤ 2097152) (o : OwnE b w v L) :
    Calls Tryz.prog 8 #[v, .int .i64 n] w fun e w' => ∃ u1 u2, e = .returned (.tuple #[.agg #[.int .i64 (tkX L n), .int .i64 (tkY L n), u1, u2], .bool (tkB L n)]) ∧ OwnI w.heap.size w' u1 (tkO L n) ∧ OwnS w.heap.size w' u2 (tkS L n) ∧ Below w.heap.size w w' := by
  obtain ⟨a, c, rfl, hcap, hcm, ha, _⟩ := o.form
  obtain ⟨W, hW⟩ : ∃ W, W = w.alloc (.cells #[.int .i64 0, .int .i64 0, .slice none 0 0, .slice none 0 0] 32) := ⟨_, rfl⟩
  have hB : Below w.heap.size w W := by rw [hW]; exact (Below.refl _ _).alloc (Nat.le_refl _) _
  have HR := Lib.hid (show BoxC W w.heap.size 32 #[.int .i64 0, .int .i64 0, .slice none 0 0, .slice none 0 0] by rw [hW]; exact BoxC.new _ _ _)
  have JL := Lib.hid (specIsLogA a c L W h (ha.later hB))
  have hnone : a = none → c = 0 ∧ L = [] := fun h => by
    subst h
    rcases o.2 with ⟨hv, h0⟩ | ⟨g, c', cur, hv, _⟩
    · injection hv with _ _ h3
      exact ⟨h3, List.eq_nil_of_length_eq_zero h0⟩
    · injection hv with h1
      cases h1
  have HNO := Lib.hid hnone
  have HA := Lib.hid ha
  have HB := Lib.hid hB
  have HW := Lib.hid hW
  clear hB hW ha o hnone
  have I1 := Lib.hid (fun W' => in_c n 0 (L.length : Int) W')
  by_cases hl : LOk L
  · rw [decide_eq_true hl] at JL
    by_cases h0 : 0 ≤ n ∧ n ≤ (L.length : Int)
    · have t0 := Lib.hid (decide_eq_true h0)
      obtain ⟨k, rfl⟩ := Int.eq_ofNat_of_zero_le h0.1
      have h1 : k ≤ L.length := by omega
      have HF := Lib.hid (tk_yes (show tkOk L (k : Int) from ⟨hl, by omega, by omega⟩))
      rw [Int.toNat_natCast] at HF
      have HRT := Lib.hid (replay_taken hl h1)
      have hlt : (L.take k).length = k := by rw [List.length_take]; omega
      have hlk := decide_eq_true (hl.take k)
      have R := fun W' => run_uptoE W' a L.length c k (by omega)
      unfold maxLen at hcm
      clear h0 hl
      go_enter Tryz.func8, Tryz.ntmps8
      go_wp2_with fail
      rw [← HW.out]
      refine JL.out.mono ?_
      rintro e w1 ⟨rfl, hb⟩
      replace HR := Lib.hid (HR.out.later hb)
      replace HB := Lib.hid (HB.out.trans (hb.mono HB.out.size))
      clear hb HW
      go_wp2_with fail
      refine (I1.out _).mono ?_
      rintro e w2 ⟨he, rfl⟩
      rw [t0.out] at he
      subst he
      have jr := specReplayLogA a c (L.take k) w1 (by omega) (AtE.take (HA.out.later HB.out) k)
      rw [hlt, HRT.out.1, HRT.out.2, hlk] at jr
      have hl1 := (rep_len L k).1
      have hl2 := (rep_len L k).2
      have jd := fun W' (hb : Below w1.heap.size w1 W') => specDigestOfA a c L (k : Int) W' (by omega) hcap ((HA.out.later HB.out).later hb)
      generalize digO L (k : Int) = dv at *
      generalize rep L k = m at *
      have JR := Lib.hid jr
      have JD1 := Lib.hid jd
      clear jr jd hlt hlk HRT HA HNO
      go_wp2_with fail
      refine JR.out.mono ?_
      rintro e w3 ⟨u1, u2, rfl, ho1, ho2, hb⟩
      obtain ⟨z1, e1, rfl⟩ := ho1.shape
      obtain ⟨z2, e2, rfl⟩ := ho2.shape
      have hbA := (Below.refl w3.heap.size w3).alloc (Nat.le_refl _) (.cells #[.slice z1 m.1.length e1, .slice z2 m.2.length e2] 30)
      have HM := Lib.hid (BoxC.new w3 30 #[.slice z1 m.1.length e1, .slice z2 m.2.length e2])
      have hbB := hb.trans (hbA.mono hb.size)
      have JD := Lib.hid (fun W' (h' : Below (w3.alloc (.cells #[.slice z1 m.1.length e1, .slice z2 m.2.length e2] 30)).heap.size (w3.alloc (.cells #[.slice z1 m.1.length e1, .slice z2 m.2.length e2] 30)) W') => JD1.out W' (hbB.trans (h'.mono hbB.size)))
      replace HR := Lib.hid ((HR.out.later hb).later hbA)
      have HO1 := Lib.hid ((OwnI.mono ho1 HB.out.size).later hbA)
      have HO2 := Lib.hid ((OwnS.mono ho2 HB.out.size).later hbA)
      replace HB := Lib.hid (HB.out.trans (hbB.mono HB.out.size))
      obtain ⟨wk, hwk⟩ : ∃ W', W' = w3.alloc (.cells #[.slice z1 m.1.length e1, .slice z2 m.2.length e2] 30) := ⟨_, rfl⟩
      obtain ⟨pm, hpm⟩ : ∃ p, p = w3.heap.size := ⟨_, rfl⟩
      rw [← hwk, ← hpm] at HM
      rw [← hwk] at JD HR HO1 HO2 HB
      have HWK := Lib.hid hwk
      have HPM := Lib.hid hpm
      clear hb ho1 ho2 hbA hbB JD1 JR R t0 hwk hpm
      go_upto_region 4 with (fail)
      rw [← HWK.out, ← HPM.out]
      refine region_inv (m := 6) [26, 27, 28, 29, 30, 31] [] (Fs [isV (.int .i64 (k : Int)), isV (.slice a L.length c), isV (.int .i64 (k : Int)), isV (.int .i64 dv), isV (.agg #[.slice z1 m.1.length e1, .slice z2 m.2.length e2]), isV (.agg #[.int .i64 (k : Int), .int .i64 dv, .slice z1 m.1.length e1, .slice z2 m.2.length e2])]) (by kernel_rfl) (by decide) rfl (by decide) (by kernel_rfl) (by kernel_rfl) (by kernel_rfl) (fun _ _ _ _ _ h => h) (Fs_mono ⟨isV_mono _, isV_mono _, isV_mono _, isV_mono _, isV_mono _, isV_mono _, trivial⟩) ?step ?float ?tail
      case float =>
        intro f hf
        cases hf
      case step =>
        intro i hi vs wq hBq hd
        rcases (show i = 0 ∨ i = 1 ∨ i = 2 ∨ i = 3 ∨ i = 4 ∨ i = 5 from by omega) with rfl | rfl | rfl | rfl | rfl | rfl
        · refine wpOp_step (o := _) rfl (fun K' hK => ?_)
          have HK := Lib.hid hK
          clear hK
          simp only [lay, Act.put, List.setIfInBounds_toArray, List.set_cons_zero, List.set_cons_succ, List.getD_cons_zero, List.getD_cons_succ, id_eq]
          go_simp
          refine HK.out _ _ ⟨_, ?_, Below.refl _ _, rfl⟩
          simp only [lay, Act.put, List.setIfInBounds_toArray, List.set_cons_zero, List.set_cons_succ, List.getD_cons_zero, List.getD_cons_succ, id_eq]
        · refine wpOp_step (o := _) rfl (fun K' hK => ?_)
          have HK := Lib.hid hK
          clear hK
          simp only [lay, Act.put, List.setIfInBounds_toArray, List.set_cons_zero, List.set_cons_succ, List.getD_cons_zero, List.getD_cons_succ, id_eq]
          go_simp
          refine HK.out _ _ ⟨_, ?_, Below.refl _ _, rfl⟩
          simp only [lay, Act.put, List.setIfInBounds_toArray, List.set_cons_zero, List.set_cons_succ, List.getD_cons_zero, List.getD_cons_succ, id_eq]
        · refine wpOp_step (o := _) rfl (fun K' hK => ?_)
          have HK := Lib.hid hK
          clear hK
          simp only [lay, Act.put, List.setIfInBounds_toArray, List.set_cons_zero, List.set_cons_succ, List.getD_cons_zero, List.getD_cons_succ, id_eq]
          go_simp
          refine HK.out _ _ ⟨_, ?_, Below.refl _ _, rfl⟩
          simp only [lay, Act.put, List.setIfInBounds_toArray, List.set_cons_zero, List.set_cons_succ, List.getD_cons_zero, List.getD_cons_succ, id_eq]
        · have e1' : vs 1 = .slice a L.length c := hd 1 (List.contains_iff_mem.1 (by kernel_rfl))
          have e2' : vs 2 = .int .i64 (k : Int) := hd 2 (List.contains_iff_mem.1 (by kernel_rfl))
          refine wpOp_step (o := _) rfl (fun K' hK => ?_)
          have HK := Lib.hid hK
          clear hK
          simp only [lay, Act.put, List.setIfInBounds_toArray, List.set_cons_zero, List.set_cons_succ, List.getD_cons_zero, List.getD_cons_succ, id_eq]
          rw [e1', e2']
          go_simp
          go_at_call 36
          refine (JD.out wq hBq).mono ?_
          rintro e w9 ⟨rfl, hb9⟩
          refine HK.out _ _ ⟨_, ?_, hb9, rfl⟩
          simp only [lay, Act.put, List.setIfInBounds_toArray, List.set_cons_zero, List.set_cons_succ, List.getD_cons_zero, List.getD_cons_succ, id_eq]
          rw [e1', e2']
        · have q0 := (HM.out.later hBq).c 0 rfl
          have q1 := (HM.out.later hBq).c 1 rfl
          refine wpOp_step (o := _) rfl (fun K' hK => ?_)
          have HK := Lib.hid hK
          clear hK
          simp only [lay, Act.put, List.setIfInBounds_toArray, List.set_cons_zero, List.set_cons_succ, List.getD_cons_zero, List.getD_cons_succ, id_eq]
          go_simp
          refine HK.out _ _ ⟨_, ?_, Below.refl _ _, rfl⟩
          simp only [lay, Act.put, List.setIfInBounds_toArray, List.set_cons_zero, List.set_cons_succ, List.getD_cons_zero, List.getD_cons_succ, id_eq]
        · have e0' : vs 0 = .int .i64 (k : Int) := hd 0 (List.contains_iff_mem.1 (by kernel_rfl))
          have e3' : vs 3 = .int .i64 dv := hd 3 (List.contains_iff_mem.1 (by kernel_rfl))
          have e4' : vs 4 = .agg #[.slice z1 m.1.length e1, .slice z2 m.2.length e2] := hd 4 (List.contains_iff_mem.1 (by kernel_rfl))
          refine wpOp_step (o := _) rfl (fun K' hK => ?_)
          have HK := Lib.hid hK
          clear hK
          simp only [lay, Act.put, List.setIfInBounds_toArray, List.set_cons_zero, List.set_cons_succ, List.getD_cons_zero, List.getD_cons_succ, id_eq]
          rw [e0', e3', e4']
          go_simp
          refine HK.out _ _ ⟨_, ?_, Below.refl _ _, rfl⟩
          simp only [lay, Act.put, List.setIfInBounds_toArray, List.set_cons_zero, List.set_cons_succ, List.getD_cons_zero, List.getD_cons_succ, id_eq]
          rw [e0', e3', e4']
      case tail =>
        intro vs wq hBq hf
        have e5' : vs 5 = .agg #[.int .i64 (k : Int), .int .i64 dv, .slice z1 m.1.length e1, .slice z2 m.2.length e2] := hf 5 (by decide)
        simp only [lay, Act.put, List.setIfInBounds_toArray, List.set_cons_zero, List.set_cons_succ, List.getD_cons_zero, List.getD_cons_succ, id_eq]
        rw [e5']
        clear e5'
        refine any_all (rs := [6]) (by kernel_rfl) (by simp) ?_
        intro i hi
        simp only [List.mem_cons, List.not_mem_nil, or_false] at hi
        subst hi
        refine wpOp_step (o := _) rfl (fun K' hK => ?_)
        have HK := Lib.hid hK
        clear hK
        replace HR := Lib.hid (HR.out.later hBq)
        have HO1' := Lib.hid (HO1.out.later hBq)
        have HO2' := Lib.hid (HO2.out.later hBq)
        have HBF := Lib.hid (HB.out.trans (hBq.mono HB.out.size))
        have r0 := HR.out.c 0 rfl
        have r1 := HR.out.c 1 rfl
        have r2 := HR.out.c 2 rfl
        have r3 := HR.out.c 3 rfl
        have f0 := HR.out.f 0
        have f1 := HR.out.f 1
        have f2 := HR.out.f 2
        have f3 := HR.out.f 3
        go_simp
        refine HK.out _ _ ?_
        clear HK K'
        try simp only [Act.put, List.setIfInBounds_toArray, List.set_cons_zero, List.set_cons_succ]
        refine any_all (rs := [7]) (by kernel_rfl) (by simp) ?_
        intro i hi
        simp only [List.mem_cons, List.not_mem_nil, or_false] at hi
        subst hi
        refine wpOp_step (o := _) rfl (fun K' hK => ?_)
        have HK := Lib.hid hK
        clear hK
        go_simp
        refine HK.out _ _ ?_
        clear HK K'
        try simp only [Act.put, List.setIfInBounds_toArray, List.set_cons_zero, List.set_cons_succ]
        refine any_done (by kernel_rfl) ?_ _
        go_wp2_with fail
        refine bodyPost_ret (v := .tuple #[.agg #[.int .i64 (k : Int), .int .i64 dv, .slice z1 m.1.length e1, .slice z2 m.2.length e2], .bool true]) (by simp [results, Tryz.results8, go_sem, r0, r1, r2, r3]) rfl ?_
        exact ⟨_, _, by rw [HF.out.1, HF.out.2.1, HF.out.2.2.1], by rw [HF.out.2.2.2.1]; exact row_set4 HO1'.out HR.out (by decide) _ _ _ _, by rw [HF.out.2.2.2.2]; exact row_set4 HO2'.out HR.out (by decide) _ _ _ _, below_set4 HBF.out (Nat.le_refl _) _ _ _ _⟩
    · have t0 := Lib.hid (decide_eq_false h0)
      have HF := Lib.hid (tk_no (fun (hh : tkOk L n) => h0 hh.2))
      clear h0 hl
      go_enter Tryz.func8, Tryz.ntmps8
      go_wp2_with fail
      rw [← HW.out]
      refine JL.out.mono ?_
      rintro e w1 ⟨rfl, hb⟩
      replace HR := Lib.hid (HR.out.later hb)
      replace HB := Lib.hid (HB.out.trans (hb.mono HB.out.size))
      clear hb HW
      go_wp2_with fail
      refine (I1.out _).mono ?_
      rintro e w2 ⟨he, rfl⟩
      rw [t0.out] at he
      subst he
      have r0 := HR.out.c 0 rfl
      have r1 := HR.out.c 1 rfl
      have r2 := HR.out.c 2 rfl
      have r3 := HR.out.c 3 rfl
      have f0 := HR.out.f 0
      have f1 := HR.out.f 1
      have f2 := HR.out.f 2
      have f3 := HR.out.f 3
      go_wp2_with fail
      refine bodyPost_ret (v := .tuple #[.agg #[.int .i64 0, .int .i64 0, .slice none 0 0, .slice none 0 0], .bool false]) (by simp [results, Tryz.results8, go_sem, r0, r1, r2, r3]) rfl ?_
      exact ⟨_, _, by rw [HF.out.1, HF.out.2.1, HF.out.2.2.1], by rw [HF.out.2.2.2.1]; exact World.ownsRow_nil _ _ _ _, by rw [HF.out.2.2.2.2]; exact own_newS _ _, below_set4 HB.out (Nat.le_refl _) _ _ _ _⟩
  · rw [decide_eq_false hl] at JL
    have HF := Lib.hid (tk_no (fun (hh : tkOk L n) => hl hh.1))
    clear hl
    go_enter Tryz.func8, Tryz.ntmps8
    go_wp2_with fail
    rw [← HW.out]
    refine JL.out.mono ?_
    rintro e w1 ⟨rfl, hb⟩
    replace HR := Lib.hid (HR.out.later hb)
    replace HB := Lib.hid (HB.out.trans (hb.mono HB.out.size))
    clear hb HW
    have r0 := HR.out.c 0 rfl
    have r1 := HR.out.c 1 rfl
    have r2 := HR.out.c 2 rfl
    have r3 := HR.out.c 3 rfl
    have f0 := HR.out.f 0
    have f1 := HR.out.f 1
    have f2 := HR.out.f 2
    have f3 := HR.out.f 3
    go_wp2_with fail
    refine bodyPost_ret (v := .tuple #[.agg #[.int .i64 0, .int .i64 0, .slice none 0 0, .slice none 0 0], .bool false]) (by simp [results, Tryz.results8, go_sem, r0, r1, r2, r3]) rfl ?_
    exact ⟨_, _, by rw [HF.out.1, HF.out.2.1, HF.out.2.2.1], by rw [HF.out.2.2.2.1]; exact World.ownsRow_nil _ _ _ _, by rw [HF.out.2.2.2.2]; exact own_newS _ _, below_set4 HB.out (Nat.le_refl _) _ _ _ _⟩
end Go.Proofs.YtpdpejlcilnafaaGreatDoor.kit
