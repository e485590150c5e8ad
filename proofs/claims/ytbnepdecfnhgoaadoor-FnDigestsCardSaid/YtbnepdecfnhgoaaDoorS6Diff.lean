/-
  Chapter 6: what spec's and impl's FirstDifference return, for every two lists.
-/
import Derived.Test.YtbnepdecfnhgoaaDoorInts
import Derived.BigQuiet
namespace Go.Proofs.YtbnepdecfnhgoaaDoor.kit
open Go.ChangeShapes Go.WideShapes Go.ChangeAt Go.RowKit
set_option linter.unusedVariables false

/-- how many numbers two lists have in common at their beginnings -/
def cpI : List Int → List Int → Nat
  | x :: a, y :: b => if x = y then cpI a b + 1 else 0
  | _, _ => 0
theorem cpI_of : ∀ (a b : List Int) (k : Nat), k ≤ a.length → k ≤ b.length → (∀ j, j < k → a.getD j 0 = b.getD j 0) → (k < a.length → k < b.length → a.getD k 0 ≠ b.getD k 0) → cpI a b = k
  | [], b, k, h1, _, _, _ => by
    have : k = 0 := by simpa using h1
    subst this; rfl
  | x :: a, [], k, _, h2, _, _ => by
    have : k = 0 := by simpa using h2
    subst this; rfl
  | x :: a, y :: b, 0, _, _, _, h => by
    have := h (by simp) (by simp)
    have hxy : x ≠ y := this
    unfold cpI
    rw [if_neg hxy]
  | x :: a, y :: b, k + 1, h1, h2, h3, h4 => by
    have hxy : x = y := h3 0 (by omega)
    unfold cpI
    rw [if_pos hxy, cpI_of a b k (by simpa using h1) (by simpa using h2) (fun j hj => h3 (j + 1) (by omega)) (fun p q => h4 (by simpa using p) (by simpa using q))]
/-- the first place where two lists differ; -1: none -/
def fdiff (a b : List Int) : Int := if cpI a b = a.length ∧ a.length = b.length then -1 else (cpI a b : Int)
theorem fdiff_at {a b : List Int} {k : Nat} (h1 : k < a.length) (h2 : k < b.length) (h3 : ∀ j, j < k → a.getD j 0 = b.getD j 0) (h4 : a.getD k 0 ≠ b.getD k 0) : fdiff a b = (k : Int) := by
  have e := cpI_of a b k (by omega) (by omega) h3 (fun _ _ => h4)
  unfold fdiff
  rw [e, if_neg (by omega)]
theorem fdiff_end {a b : List Int} {k : Nat} (h1 : k ≤ a.length) (h2 : k ≤ b.length) (h : k = a.length ∨ k = b.length) (h3 : ∀ j, j < k → a.getD j 0 = b.getD j 0) : fdiff a b = if a.length = b.length then -1 else (k : Int) := by
  have e := cpI_of a b k (by omega) (by omega) h3 (fun p q => by omega)
  unfold fdiff
  rw [e]
  by_cases hl : a.length = b.length
  · rw [if_pos hl, if_pos (by omega)]
  · rw [if_neg hl, if_neg (by omega)]
set_option maxRecDepth 100000 in
set_option maxHeartbeats 4000000 in
theorem specFirstDifferenceA (a1 a2 : Option Addr) (c1 c2 : Nat) (l1 l2 : List Int) (w : World) (h1 : l1.length ≤ 4194304) (h2 : l2.length ≤ 4194304) (ha1 : At w a1 l1) (ha2 : At w a2 l2) :
    Calls Tryd.prog 16 #[.slice a1 l1.length c1, .slice a2 l2.length c2] w fun e w' => e = .returned (.int .i64 (fdiff l1 l2)) ∧ Below w.heap.size w w' := by
  have HA1 := Lib.hid ha1
  have HA2 := Lib.hid ha2
  clear ha1 ha2
  go_enter Tryd.func16, Tryd.ntmps16
  go_wp2_with fail
  go_loopw [5] (fun i wr => ∃ k : Nat, k ≤ l1.length ∧ k ≤ l2.length ∧ i = .int .i64 k ∧ Hid (∀ j, j < k → l1.getD j 0 = l2.getD j 0) ∧ Hid (Drawn w wr)) (fun i _ => l1.length - (intOf i).toNat)
  case atStart => exact ⟨0, Nat.zero_le _, Nat.zero_le _, rfl, Lib.hid (fun j h => by omega), Lib.hid (Drawn.refl _)⟩
  case round =>
    obtain ⟨k, hk, hk2, rfl, HE, HQ⟩ := hrel
    by_cases hlt : k < l1.length
    · have t1 : decide ((k : Int) < (l1.length : Int)) = true := decide_eq_true (by omega)
      by_cases hlt2 : k < l2.length
      · have t2 : decide ((k : Int) < (l2.length : Int)) = true := decide_eq_true (by omega)
        obtain ⟨x, rfl, hx, hc1⟩ := HA1.out k hlt
        obtain ⟨y, rfl, hy, hc2⟩ := HA2.out k hlt2
        have hc1 := HQ.out.cell hc1
        have hc2 := HQ.out.cell hc2
        have k3 : (0 : Int) ≤ (k : Int) := by omega
        have k5 : (k : Int) < (l1.length : Int) := by omega
        have k6 : (k : Int) < (l2.length : Int) := by omega
        clear hx hy
        generalize hz1 : l1.getD k 0 = z1 at hc1
        generalize hz2 : l2.getD k 0 = z2 at hc2
        by_cases hz : z1 = z2
        · have HE2 := Lib.hid (show ∀ j, j < k + 1 → l1.getD j 0 = l2.getD j 0 from fun j hj => by
            by_cases e : j = k
            · rw [e, hz1, hz2]; exact hz
            · exact HE.out j (by omega))
          have q1 : (z1 != z2) = false := by rw [hz]; simp
          clear hz hz1 hz2
          go_wp2_with fail
          go_quiet (fail)
          go_wp2_with fail
          go_roundw
          case rel => exact ⟨k + 1, by omega, by omega, by go_num, HE2, Lib.hid (HQ.out.more _)⟩
          case measure => simp [intOf]; omega
        · have HF := Lib.hid (fdiff_at hlt hlt2 HE.out (by rw [hz1, hz2]; exact hz))
          have q1 : (z1 != z2) = true := by rw [bne_iff_ne]; exact hz
          clear hz hz1 hz2
          go_wp2_with fail
          go_quiet (fail)
          go_wp2_with fail
          go_ret
          exact ⟨by rw [HF.out]; rfl, (HQ.out.more _).below _⟩
      · have t2 : decide ((k : Int) < (l2.length : Int)) = false := decide_eq_false (by omega)
        have hl : ¬ l1.length = l2.length := by omega
        have HF := Lib.hid (fdiff_end hk hk2 (.inr (by omega)) HE.out)
        rw [if_neg hl] at HF
        have g0 : ((l1.length : Int) == (l2.length : Int)) = false := by rw [beq_eq_false_iff_ne]; omega
        obtain rfl : k = l2.length := by omega
        clear hlt2 hl hk hk2
        go_wp2_with fail
        go_ret
        exact ⟨by rw [HF.out]; rfl, HQ.out.below _⟩
    · have t1 : decide ((k : Int) < (l1.length : Int)) = false := decide_eq_false (by omega)
      have HF := Lib.hid (fdiff_end hk hk2 (.inl (by omega)) HE.out)
      by_cases hl : l1.length = l2.length
      · rw [if_pos hl] at HF
        have g0 : ((l1.length : Int) == (l2.length : Int)) = true := by rw [beq_iff_eq]; omega
        clear hl
        go_wp2_with fail
        go_ret
        exact ⟨by rw [HF.out]; rfl, HQ.out.below _⟩
      · rw [if_neg hl] at HF
        have g0 : ((l1.length : Int) == (l2.length : Int)) = false := by rw [beq_eq_false_iff_ne]; omega
        obtain rfl : k = l1.length := by omega
        have hm : ¬ l2.length < l1.length := by omega
        clear hlt hl hk hk2
        go_wp2_with fail
        go_ret
        exact ⟨by rw [HF.out]; rfl, HQ.out.below _⟩
theorem specFirstDifference (b1 : Nat) (v1 : Value) (l1 : List Int) (b2 : Nat) (v2 : Value) (l2 : List Int) (w : World) (h1 : l1.length ≤ 4194304) (o1 : OwnI b1 w v1 l1) (h2 : l2.length ≤ 4194304) (o2 : OwnI b2 w v2 l2) :
    Calls Tryd.prog 16 #[v1, v2] w fun e w' => e = .returned (.int .i64 (fdiff l1 l2)) ∧ Below w.heap.size w w' := by
  obtain ⟨a1, c1, rfl, _, _, t1, _⟩ := o1.form
  obtain ⟨a2, c2, rfl, _, _, t2, _⟩ := o2.form
  exact specFirstDifferenceA a1 a2 c1 c2 l1 l2 w h1 h2 t1 t2
set_option maxRecDepth 100000 in
set_option maxHeartbeats 4000000 in
theorem implFirstDifferenceA (a1 a2 : Option Addr) (c1 c2 : Nat) (l1 l2 : List Int) (w : World) (h1 : l1.length ≤ 4194304) (h2 : l2.length ≤ 4194304) (ha1 : At w a1 l1) (ha2 : At w a2 l2) :
    Calls Tryd.prog 15 #[.slice a1 l1.length c1, .slice a2 l2.length c2] w fun e w' => e = .returned (.int .i64 (fdiff l1 l2)) ∧ Below w.heap.size w w' := by
  have HA1 := Lib.hid ha1
  have HA2 := Lib.hid ha2
  clear ha1 ha2
  by_cases hmn : l2.length < l1.length
  · go_enter Tryd.func15, Tryd.ntmps15
    go_wp2_with fail
    go_loopw [6, 13] (fun _ i wr => ∃ k : Nat, k ≤ l2.length ∧ i = .int .i64 k ∧ Hid (∀ j, j < k → l1.getD j 0 = l2.getD j 0) ∧ Hid (Drawn w wr)) (fun _ i _ => l2.length - (intOf i).toNat)
    case atStart => exact ⟨0, Nat.zero_le _, rfl, Lib.hid (fun j h => by omega), Lib.hid (Drawn.refl _)⟩
    case round =>
      obtain ⟨k, hk, rfl, HE, HQ⟩ := hrel
      by_cases hltm : k < l2.length
      · have t1 : decide ((k : Int) < (l2.length : Int)) = true := decide_eq_true (by omega)
        have hlt : k < l1.length := by omega
        have hlt2 : k < l2.length := by omega
        obtain ⟨x, rfl, hx, hc1⟩ := HA1.out k hlt
        obtain ⟨y, rfl, hy, hc2⟩ := HA2.out k hlt2
        have hc1 := HQ.out.cell hc1
        have hc2 := HQ.out.cell hc2
        have k3 : (0 : Int) ≤ (k : Int) := by omega
        have k5 : (k : Int) < (l1.length : Int) := by omega
        have k6 : (k : Int) < (l2.length : Int) := by omega
        clear hx hy
        generalize hz1 : l1.getD k 0 = z1 at hc1
        generalize hz2 : l2.getD k 0 = z2 at hc2
        by_cases hz : z1 = z2
        · have HE2 := Lib.hid (show ∀ j, j < k + 1 → l1.getD j 0 = l2.getD j 0 from fun j hj => by
            by_cases e : j = k
            · rw [e, hz1, hz2]; exact hz
            · exact HE.out j (by omega))
          have q1 : (z1 != z2) = false := by rw [hz]; simp
          clear hz hz1 hz2
          go_wp2_with fail
          go_quiet (fail)
          go_wp2_with fail
          go_roundw
          case rel => exact ⟨k + 1, by omega, by go_num, HE2, Lib.hid (HQ.out.more _)⟩
          case measure => simp [intOf]; omega
        · have HF := Lib.hid (fdiff_at hlt hlt2 HE.out (by rw [hz1, hz2]; exact hz))
          have q1 : (z1 != z2) = true := by rw [bne_iff_ne]; exact hz
          clear hz hz1 hz2
          go_wp2_with fail
          go_quiet (fail)
          go_wp2_with fail
          go_ret
          exact ⟨by rw [HF.out]; rfl, (HQ.out.more _).below _⟩
      · have t1 : decide ((k : Int) < (l2.length : Int)) = false := decide_eq_false (by omega)
        have HF := Lib.hid (fdiff_end (a := l1) (b := l2) (k := k) (by omega) (by omega) (by omega) HE.out)
        by_cases hl : l1.length = l2.length
        · rw [if_pos hl] at HF
          have g0 : ((l1.length : Int) == (l2.length : Int)) = true := by rw [beq_iff_eq]; omega
          clear hl
          go_wp2_with fail
          go_ret
          exact ⟨by rw [HF.out]; rfl, HQ.out.below _⟩
        · rw [if_neg hl] at HF
          have g0 : ((l1.length : Int) == (l2.length : Int)) = false := by rw [beq_eq_false_iff_ne]; omega
          obtain rfl : k = l2.length := by omega
          clear hltm hl hk hmn
          go_wp2_with fail
          go_ret
          exact ⟨by rw [HF.out]; rfl, HQ.out.below _⟩
  · go_enter Tryd.func15, Tryd.ntmps15
    go_wp2_with fail
    go_loopw [6, 13] (fun _ i wr => ∃ k : Nat, k ≤ l1.length ∧ i = .int .i64 k ∧ Hid (∀ j, j < k → l1.getD j 0 = l2.getD j 0) ∧ Hid (Drawn w wr)) (fun _ i _ => l1.length - (intOf i).toNat)
    case atStart => exact ⟨0, Nat.zero_le _, rfl, Lib.hid (fun j h => by omega), Lib.hid (Drawn.refl _)⟩
    case round =>
      obtain ⟨k, hk, rfl, HE, HQ⟩ := hrel
      by_cases hltm : k < l1.length
      · have t1 : decide ((k : Int) < (l1.length : Int)) = true := decide_eq_true (by omega)
        have hlt : k < l1.length := by omega
        have hlt2 : k < l2.length := by omega
        obtain ⟨x, rfl, hx, hc1⟩ := HA1.out k hlt
        obtain ⟨y, rfl, hy, hc2⟩ := HA2.out k hlt2
        have hc1 := HQ.out.cell hc1
        have hc2 := HQ.out.cell hc2
        have k3 : (0 : Int) ≤ (k : Int) := by omega
        have k5 : (k : Int) < (l1.length : Int) := by omega
        have k6 : (k : Int) < (l2.length : Int) := by omega
        clear hx hy
        generalize hz1 : l1.getD k 0 = z1 at hc1
        generalize hz2 : l2.getD k 0 = z2 at hc2
        by_cases hz : z1 = z2
        · have HE2 := Lib.hid (show ∀ j, j < k + 1 → l1.getD j 0 = l2.getD j 0 from fun j hj => by
            by_cases e : j = k
            · rw [e, hz1, hz2]; exact hz
            · exact HE.out j (by omega))
          have q1 : (z1 != z2) = false := by rw [hz]; simp
          clear hz hz1 hz2
          go_wp2_with fail
          go_quiet (fail)
          go_wp2_with fail
          go_roundw
          case rel => exact ⟨k + 1, by omega, by go_num, HE2, Lib.hid (HQ.out.more _)⟩
          case measure => simp [intOf]; omega
        · have HF := Lib.hid (fdiff_at hlt hlt2 HE.out (by rw [hz1, hz2]; exact hz))
          have q1 : (z1 != z2) = true := by rw [bne_iff_ne]; exact hz
          clear hz hz1 hz2
          go_wp2_with fail
          go_quiet (fail)
          go_wp2_with fail
          go_ret
          exact ⟨by rw [HF.out]; rfl, (HQ.out.more _).below _⟩
      · have t1 : decide ((k : Int) < (l1.length : Int)) = false := decide_eq_false (by omega)
        have HF := Lib.hid (fdiff_end (a := l1) (b := l2) (k := k) (by omega) (by omega) (by omega) HE.out)
        by_cases hl : l1.length = l2.length
        · rw [if_pos hl] at HF
          have g0 : ((l1.length : Int) == (l2.length : Int)) = true := by rw [beq_iff_eq]; omega
          clear hl
          go_wp2_with fail
          go_ret
          exact ⟨by rw [HF.out]; rfl, HQ.out.below _⟩
        · rw [if_neg hl] at HF
          have g0 : ((l1.length : Int) == (l2.length : Int)) = false := by rw [beq_eq_false_iff_ne]; omega
          obtain rfl : k = l1.length := by omega
          clear hltm hl hk hmn
          go_wp2_with fail
          go_ret
          exact ⟨by rw [HF.out]; rfl, HQ.out.below _⟩
theorem implFirstDifference (b1 : Nat) (v1 : Value) (l1 : List Int) (b2 : Nat) (v2 : Value) (l2 : List Int) (w : World) (h1 : l1.length ≤ 4194304) (o1 : OwnI b1 w v1 l1) (h2 : l2.length ≤ 4194304) (o2 : OwnI b2 w v2 l2) :
    Calls Tryd.prog 15 #[v1, v2] w fun e w' => e = .returned (.int .i64 (fdiff l1 l2)) ∧ Below w.heap.size w w' := by
  obtain ⟨a1, c1, rfl, _, _, t1, _⟩ := o1.form
  obtain ⟨a2, c2, rfl, _, _, t2, _⟩ := o2.form
  exact implFirstDifferenceA a1 a2 c1 c2 l1 l2 w h1 h2 t1 t2
end Go.Proofs.YtbnepdecfnhgoaaDoor.kit
