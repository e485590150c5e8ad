/-
  Chapter 1, decimal numbers: what spec's and impl's FormatInt return, for every int.
-/
import Derived.Test.YtgjebjoaemeeoaaGreatDoorC1Fixed
import Derived.Test.YtgjebjoaemeeoaaGreatDoorShelf
import Derived.Lib.AppendIntMem
import Derived.Lib.ItoaNum
namespace Go.Proofs.YtgjebjoaemeeoaaGreatDoor.kit
open Go.ChangeShapes Go.WideShapes Go.ChangeAt Go.RowKit
set_option linter.unusedVariables false

/-- the library's table of powers of ten, in this world and in all that grow out of it -/
def Tab (w : World) : Prop := Lib.TabBelow Tryz.prog w.heap.size w "internal/strconv.uint64pow10" .u64 Lib.pow10Tab
theorem Tab.below {w w' : World} (h : Tab w) (hb : Below w.heap.size w w') : Tab w' := fun w'' hb' => h w'' (hb.trans (hb'.mono hb.size))

theorem decDigits_small {u : Nat} (h : u < 10) : Lib.decDigits u = [UInt8.ofNat (48 + u)] := by rw [Lib.decDigits, dif_pos h]
theorem decDigits_big {u : Nat} (h : ¬ u < 10) : Lib.decDigits u = Lib.decDigits (u / 10) ++ [UInt8.ofNat (48 + u % 10)] := by rw [Lib.decDigits, dif_neg h]
theorem decDigits_length : ∀ (k u : Nat), u < 10 ^ (k + 1) → (Lib.decDigits u).length ≤ k + 1 := by
  intro k
  induction k with
  | zero => intro u h; rw [decDigits_small (by simpa using h)]; simp
  | succ k ih =>
    intro u h
    by_cases hu : u < 10
    · rw [decDigits_small hu]; simp
    · rw [decDigits_big hu, List.length_append]
      have := ih (u / 10) (by rw [Nat.pow_succ] at h; omega)
      simp; omega

/-- the numeral's state while its digits are gathered from the end -/
def DigInv (a m : Nat) (l : List UInt8) : Prop := (0 < m → Lib.decDigits m ++ l = Lib.decDigits a) ∧ (m = 0 → l = Lib.decDigits a)
theorem DigInv.start {a : Nat} (h : 0 < a) : DigInv a a [] := ⟨fun _ => by simp, fun h0 => by omega⟩
theorem DigInv.step {a m : Nat} {l : List UInt8} (h : DigInv a m l) (hm : 0 < m) : DigInv a (m / 10) (UInt8.ofNat (48 + m % 10) :: l) := by
  have h1 := h.1 hm
  by_cases hu : m < 10
  · rw [decDigits_small hu] at h1
    refine ⟨fun h0 => by omega, fun _ => ?_⟩
    rw [← h1, Nat.mod_eq_of_lt hu]; rfl
  · rw [decDigits_big hu, List.append_assoc] at h1
    exact ⟨fun _ => h1, fun h0 => by omega⟩
theorem DigInv.len {a m : Nat} {l : List UInt8} (h : DigInv a m l) (ha : a < 10 ^ 20) : l.length ≤ 20 := by
  have hl := decDigits_length 19 a ha
  rcases Nat.eq_zero_or_pos m with h0 | h0
  · rw [h.2 h0]; exact hl
  · have := congrArg List.length (h.1 h0)
    rw [List.length_append] at this
    omega

theorem itoa_le (n : Int) (h0 : -9223372036854775808 ≤ n) (h1 : n ≤ 9223372036854775807) : (Lib.itoa n).length ≤ 21 := by
  unfold Lib.itoa
  split
  · have := decDigits_length 19 n.natAbs (by have : n.natAbs ≤ 9223372036854775808 := by omega
                                             omega)
    simp only [List.length_cons]; omega
  · have := decDigits_length 19 n.toNat (by have : n.toNat ≤ 9223372036854775808 := by omega
                                            omega)
    omega
set_option maxRecDepth 100000 in
theorem specFormatInt_pos (a : Nat) (w : World) (h0 : 0 < a) (h1 : a ≤ 9223372036854775807) :
    Calls Tryz.prog 57 #[.int .i64 a] w fun e w' => e = .returned (str (Lib.decDigits a)) ∧ Below w.heap.size w w' := by
  have g1 : ((a : Int) == 0) = false := by rw [beq_eq_false_iff_ne]; omega
  have g2 : decide ((a : Int) < 0) = false := by simp
  go_enter Tryz.func57, Tryz.ntmps57
  go_wp2_with fail
  go_loopw [0, 3, 5] (fun n o d wr => ∃ (m : Nat) (l : List UInt8), m ≤ a ∧ n = .int .i64 m ∧ o = str l ∧ Hid (DigInv a m l) ∧ Below w.heap.size w wr) (fun n _ _ _ => (intOf n).toNat)
  case atStart => exact ⟨a, [], Nat.le_refl _, rfl, rfl, Lib.hid (DigInv.start h0), Below.refl _ _⟩
  case round =>
    obtain ⟨m, l, hm, rfl, rfl, hinv, hb⟩ := hrel
    have hl := hinv.out.len (by omega)
    by_cases hz : m = 0
    · subst hz
      have HE := Lib.hid (hinv.out.2 rfl)
      go_wp2_with fail
      go_ret
      exact ⟨by rw [← HE.out]; rfl, hb⟩
    · have g3 : ((m : Int) != 0) = true := by rw [bne_iff_ne]; omega
      have g4 : decide ((m : Int) % 10 < 0) = false := by simp; omega
      have hcv : ∀ x : Int, (convert 22 9 (.slice (some ⟨wr.heap.size, 0, none⟩) 1 1)).run Tryz.prog (wr.alloc (.cells #[.int .u8 x] 5)) = .ok (.string ⟨[UInt8.ofNat x.toNat].toArray⟩) (wr.alloc (.cells #[.int .u8 x] 5)) := fun x => conv1 Tryz.underlying22 Tryz.underlying5 Tryz.underlying9 wr x
      go_wp2_with fail
      go_roundw
      case rel =>
        refine ⟨m / 10, UInt8.ofNat (48 + m % 10) :: l, by have := Nat.div_le_self m 10; omega, by go_num, ?_, Lib.hid (hinv.out.step (by omega)), hb.alloc hb.size _⟩
        rw [show (#[48 + UInt8.ofNat (m % 10)] : Array UInt8) = [UInt8.ofNat (48 + m % 10)].toArray by simp, ByteArray.mk_append_mk]
        rfl
      case measure => simp [intOf]; omega
set_option maxRecDepth 100000 in
theorem specFormatInt_neg (a : Nat) (w : World) (h0 : 0 < a) (h1 : a ≤ 9223372036854775808) :
    Calls Tryz.prog 57 #[.int .i64 (-(a : Int))] w fun e w' => e = .returned (str (45 :: Lib.decDigits a)) ∧ Below w.heap.size w w' := by
  have g1 : (-(a : Int) == 0) = false := by rw [beq_eq_false_iff_ne]; omega
  have g2 : decide (-(a : Int) < 0) = true := by simp; omega
  go_enter Tryz.func57, Tryz.ntmps57
  go_wp2_with fail
  go_loopw [0, 3, 5] (fun n o d wr => ∃ (m : Nat) (l : List UInt8), m ≤ a ∧ n = .int .i64 (-(m : Int)) ∧ o = str l ∧ Hid (DigInv a m l) ∧ Below w.heap.size w wr) (fun n _ _ _ => (-(intOf n)).toNat)
  case atStart => exact ⟨a, [], Nat.le_refl _, rfl, rfl, Lib.hid (DigInv.start h0), Below.refl _ _⟩
  case round =>
    obtain ⟨m, l, hm, rfl, rfl, hinv, hb⟩ := hrel
    have hl := hinv.out.len (by omega)
    by_cases hz : m = 0
    · subst hz
      have HE := Lib.hid (hinv.out.2 rfl)
      go_wp2_with fail
      go_ret
      refine ⟨?_, hb⟩
      rw [← HE.out]
      exact congrArg (fun x => Ending.returned (Value.string x)) (ByteArray.mk_append_mk [45] l)
    · have g3 : (-(m : Int) != 0) = true := by rw [bne_iff_ne]; omega
      have q1 : (-(m : Int)).tmod 10 = -((m % 10 : Nat) : Int) := by rw [Int.neg_tmod, Int.tmod_eq_emod_of_nonneg (by omega)]; rfl
      have q2 : (-(m : Int)).tdiv 10 = -((m / 10 : Nat) : Int) := by rw [Int.neg_tdiv, Int.tdiv_eq_ediv_of_nonneg (by omega)]; rfl
      obtain ⟨c, hc⟩ : ∃ c, c = m % 10 := ⟨_, rfl⟩
      obtain ⟨q, hq⟩ : ∃ q, q = m / 10 := ⟨_, rfl⟩
      have hc9 : c ≤ 9 := by omega
      have hqm : q ≤ m := by omega
      rw [← hc] at q1
      rw [← hq] at q2
      have HC := Lib.hid hc
      have HQ := Lib.hid hq
      clear hc hq
      have hcv : ∀ x : Int, (convert 22 9 (.slice (some ⟨wr.heap.size, 0, none⟩) 1 1)).run Tryz.prog (wr.alloc (.cells #[.int .u8 x] 5)) = .ok (.string ⟨[UInt8.ofNat x.toNat].toArray⟩) (wr.alloc (.cells #[.int .u8 x] 5)) := fun x => conv1 Tryz.underlying22 Tryz.underlying5 Tryz.underlying9 wr x
      by_cases hc0 : c = 0
      · subst hc0
        go_wp2_with fail
        go_roundw
        case rel =>
          refine ⟨q, UInt8.ofNat (48 + m % 10) :: l, by omega, rfl, ?_, Lib.hid (by rw [HQ.out]; exact hinv.out.step (by omega)), hb.alloc hb.size _⟩
          rw [← HC.out]
          exact congrArg Value.string (ByteArray.mk_append_mk [48] l)
        case measure =>
          have := HQ.out
          simp [intOf]; omega
      · have g4 : decide (-(c : Int) < 0) = true := by simp; omega
        go_wp2_with fail
        go_roundw
        case rel =>
          refine ⟨q, UInt8.ofNat (48 + m % 10) :: l, by omega, rfl, ?_, Lib.hid (by rw [HQ.out]; exact hinv.out.step (by omega)), hb.alloc hb.size _⟩
          rw [← HC.out, show (#[48 + UInt8.ofNat c] : Array UInt8) = [UInt8.ofNat (48 + c)].toArray by simp, ByteArray.mk_append_mk]
          rfl
        case measure =>
          have := HQ.out
          simp [intOf]; omega
theorem specFormatInt (n : Int) (w : World) (h0 : -9223372036854775808 ≤ n) (h1 : n ≤ 9223372036854775807) :
    Calls Tryz.prog 57 #[.int .i64 n] w fun e w' => e = .returned (str (Lib.itoa n)) ∧ Below w.heap.size w w' := by
  by_cases hz : n = 0
  · subst hz
    have HE : Hid (Lib.itoa 0 = [48]) := Lib.hid (by unfold Lib.itoa; rw [if_neg (by omega)]; exact decDigits_small (by decide))
    go_enter Tryz.func57, Tryz.ntmps57
    go_wp2_with fail
    go_ret
    exact ⟨by rw [HE.out]; rfl, Below.refl _ _⟩
  · by_cases hn : n < 0
    · have e : Lib.itoa n = 45 :: Lib.decDigits n.natAbs := by unfold Lib.itoa; rw [if_pos hn]
      rw [e]
      have h := specFormatInt_neg n.natAbs w (by omega) (by omega)
      rwa [show -(n.natAbs : Int) = n by omega] at h
    · have e : Lib.itoa n = Lib.decDigits n.toNat := by unfold Lib.itoa; rw [if_neg hn]
      rw [e]
      have h := specFormatInt_pos n.toNat w (by omega) (by omega)
      rwa [show (n.toNat : Int) = n by omega] at h
theorem implFormatInt (n : Int) (w : World) (h0 : -9223372036854775808 ≤ n) (h1 : n ≤ 9223372036854775807) (ht : Tab w) :
    Calls Tryz.prog 32 #[.int .i64 n] w fun e w' => e = .returned (str (Lib.itoa n)) ∧ Below w.heap.size w w' := by
  have c1 : Calls Tryz.prog 68 #[.int .i64 n] w fun e w' => e = .returned (str (Lib.itoa n)) ∧ Below w.heap.size w w' :=
    (Tryz.strconv_Itoa n h0 h1 w ht.here).mono fun e w' ⟨he, k, os, hw⟩ => ⟨he, by rw [hw]; exact Lib.below_grow _ _ (Nat.le_refl _) _ _⟩
  have C1 := Lib.hid c1
  clear c1
  go_enter Tryz.func32, Tryz.ntmps32
  go_wp2_with (go_at_call 68; refine (C1.out).mono ?_; rintro e w1 ⟨rfl, hb1⟩)
  go_ret
  exact ⟨rfl, hb1⟩
end Go.Proofs.YtgjebjoaemeeoaaGreatDoor.kit
