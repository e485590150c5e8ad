/-
  Chapter 7: what spec's and impl's MissingChunk return.
-/
import Derived.Test.YtkkgonkpmdlelaaTxts
namespace Go.Proofs.Ytkkgonkpmdlelaa.kit
open Go.ChangeShapes Go.WideShapes Go.ChangeAt Go.RowKit
set_option linter.unusedVariables false

/-- the first empty string's place; the length if there is none -/
def fE : List ByteArray → Nat
  | [] => 0
  | b :: r => if b.toList.isEmpty = true then 0 else fE r + 1
theorem fE_of : ∀ (l : List ByteArray) (k : Nat), k ≤ l.length → (∀ j, j < k → (l.getD j .empty).toList.isEmpty = false) → (k < l.length → (l.getD k .empty).toList.isEmpty = true) → fE l = k
  | [], k, h, _, _ => by
    have : k = 0 := by simpa using h
    subst this; rfl
  | b :: r, 0, _, _, h => by
    have := h (by simp)
    unfold fE
    rw [if_pos (by simpa using this)]
  | b :: r, k + 1, h1, h2, h3 => by
    have hb : b.toList.isEmpty = false := h2 0 (by omega)
    unfold fE
    rw [if_neg (by simp [hb]), fE_of r k (by simpa using h1) (fun j hj => h2 (j + 1) (by omega)) (fun p => h3 (by simpa using p))]
/-- the missing chunk -/
def missC (l : List ByteArray) (t : Int) : Int := if fE l < l.length then (fE l : Int) else if l.length = 0 ∧ 0 < t then 0 else -1
/-- slices.Index at "" -/
def idxE (l : List ByteArray) : Int := if fE l < l.length then (fE l : Int) else -1
theorem idxE_at {l : List ByteArray} {k : Nat} (h : k < l.length) (h1 : ∀ j, j < k → (l.getD j .empty).toList.isEmpty = false) (h2 : (l.getD k .empty).toList.isEmpty = true) : idxE l = (k : Int) ∧ ∀ t, missC l t = (k : Int) := by
  have e := fE_of l k (by omega) h1 (fun _ => h2)
  unfold idxE missC
  rw [e, if_pos h]
  exact ⟨rfl, fun t => by rw [if_pos h]⟩
theorem idxE_none {l : List ByteArray} (h1 : ∀ j, j < l.length → (l.getD j .empty).toList.isEmpty = false) : idxE l = -1 ∧ ∀ t, missC l t = if l.length = 0 ∧ 0 < t then 0 else -1 := by
  have e := fE_of l l.length (Nat.le_refl _) h1 (fun h => absurd h (Nat.lt_irrefl _))
  unfold idxE missC
  rw [e, if_neg (Nat.lt_irrefl _)]
  exact ⟨rfl, fun t => by rw [if_neg (Nat.lt_irrefl _)]⟩
theorem idxE_miss {l : List ByteArray} {t : Int} (h : ¬ (l.length = 0 ∧ 0 < t)) : missC l t = idxE l := by
  unfold missC idxE
  rw [if_neg h]
set_option maxRecDepth 100000 in
theorem specMissingChunkA (a : Option Addr) (c : Nat) (l : List ByteArray) (t : Int) (w : World) (hl : l.length ≤ 4194304) (ha : AtT w a l) :
    Calls Try.prog 16 #[.slice a l.length c, .int .i64 t] w fun e w' => e = .returned (.int .i64 (missC l t)) ∧ w = w' := by
  have HA := Lib.hid ha
  clear ha
  go_enter Try.func16, Try.ntmps16
  go_wp2_with fail
  go_loop [5] (fun i => ∃ k : Nat, k ≤ l.length ∧ i = .int .i64 k ∧ Hid (∀ j, j < k → (l.getD j .empty).toList.isEmpty = false)) (fun i => l.length - (intOf i).toNat)
  case atStart => exact ⟨0, Nat.zero_le _, rfl, Lib.hid (fun j h => by omega)⟩
  case round =>
    obtain ⟨k, hk, rfl, HE⟩ := hrel
    by_cases hlt : k < l.length
    · skip
      obtain ⟨x, rfl, hx, hc⟩ := HA.out k hlt
      have k3 : (0 : Int) ≤ (k : Int) := by omega
      have k5 : (k : Int) < (l.length : Int) := by omega
      obtain ⟨z, hz⟩ : ∃ z, l.getD k .empty = z := ⟨_, rfl⟩
      rw [hz] at hc
      cases hq : z.toList.isEmpty with
      | true =>
        have HF := Lib.hid ((idxE_at hlt HE.out (by rw [hz]; exact hq)).2 t)
        clear hz
        go_wp2_with fail
        go_ret
        exact ⟨by rw [HF.out]; rfl, rfl⟩
      | false =>
        have HE2 := Lib.hid (show ∀ j, j < k + 1 → (l.getD j .empty).toList.isEmpty = false from fun j hj => by
          by_cases e : j = k
          · rw [e, hz]; exact hq
          · exact HE.out j (by omega))
        clear hz
        go_wp2_with fail
        go_round
        case rel => exact ⟨k + 1, by omega, by go_num, HE2⟩
        case measure => simp [intOf]; omega
    · obtain rfl : k = l.length := by omega
      have HF := Lib.hid ((idxE_none HE.out).2 t)
      clear hlt hk
      by_cases h0 : l.length = 0
      · by_cases ht : 0 < t
        · rw [if_pos ⟨h0, ht⟩] at HF
          have g0 : ((l.length : Int) == 0) = true := by rw [beq_iff_eq]; omega
          have g1 : decide (t > 0) = true := decide_eq_true ht
          clear h0 ht
          go_wp2_with fail
          go_ret
          exact ⟨by rw [HF.out]; rfl, rfl⟩
        · rw [if_neg (fun h => ht h.2)] at HF
          have g0 : ((l.length : Int) == 0) = true := by rw [beq_iff_eq]; omega
          have g1 : decide (t > 0) = false := decide_eq_false ht
          clear h0 ht
          go_wp2_with fail
          go_ret
          exact ⟨by rw [HF.out]; rfl, rfl⟩
      · rw [if_neg (fun h => h0 h.1)] at HF
        have g0 : ((l.length : Int) == 0) = false := by rw [beq_eq_false_iff_ne]; omega
        clear h0
        go_wp2_with fail
        go_ret
        exact ⟨by rw [HF.out]; rfl, rfl⟩
theorem specMissingChunk (b : Nat) (v : Value) (l : List ByteArray) (t : Int) (w : World) (h : l.length ≤ 4194304) (hs : sumT l l.length ≤ 1048576) (o : OwnT b w v l) :
    Calls Try.prog 16 #[v, .int .i64 t] w fun e w' => e = .returned (.int .i64 (missC l t)) ∧ Below w.heap.size w w' := by
  obtain ⟨a, c, rfl, _, _, at1, _⟩ := o.form
  exact (specMissingChunkA a c l t w h at1).mono fun e w' ⟨he, hw⟩ => ⟨he, hw ▸ Below.refl _ _⟩
set_option maxRecDepth 100000 in
theorem slicesIndexE (a : Option Addr) (c : Nat) (l : List ByteArray) (w : World) (hl : l.length ≤ 4194304) (ha : AtT w a l) :
    Calls Try.prog 37 #[.slice a l.length c, .string ByteArray.empty] w fun e w' => e = .returned (.int .i64 (idxE l)) ∧ w = w' := by
  have HA := Lib.hid ha
  clear ha
  go_enter Try.func37, Try.ntmps37
  go_wp2_with fail
  go_loop [5, 8] (fun _ i => ∃ k : Nat, k ≤ l.length ∧ i = .int .i64 k ∧ Hid (∀ j, j < k → (l.getD j .empty).toList.isEmpty = false)) (fun _ i => l.length - (intOf i).toNat)
  case atStart => exact ⟨0, Nat.zero_le _, rfl, Lib.hid (fun j h => by omega)⟩
  case round =>
    obtain ⟨k, hk, rfl, HE⟩ := hrel
    by_cases hlt : k < l.length
    · skip
      obtain ⟨x, rfl, hx, hc⟩ := HA.out k hlt
      have k3 : (0 : Int) ≤ (k : Int) := by omega
      have k5 : (k : Int) < (l.length : Int) := by omega
      obtain ⟨z, hz⟩ : ∃ z, l.getD k .empty = z := ⟨_, rfl⟩
      rw [hz] at hc
      have hq0 : ([] == z.toList) = z.toList.isEmpty := by cases z.toList <;> rfl
      cases hq : z.toList.isEmpty with
      | true =>
        have HF := Lib.hid (idxE_at hlt HE.out (by rw [hz]; exact hq)).1
        rw [hq] at hq0
        clear hz hq
        go_wp2_with fail
        go_ret
        exact ⟨by rw [HF.out]; rfl, rfl⟩
      | false =>
        have HE2 := Lib.hid (show ∀ j, j < k + 1 → (l.getD j .empty).toList.isEmpty = false from fun j hj => by
          by_cases e : j = k
          · rw [e, hz]; exact hq
          · exact HE.out j (by omega))
        rw [hq] at hq0
        clear hz
        go_wp2_with fail
        go_round
        case rel => exact ⟨k + 1, by omega, by go_num, HE2⟩
        case measure => simp [intOf]; omega
    · obtain rfl : k = l.length := by omega
      have HF := Lib.hid (idxE_none HE.out).1
      clear hlt hk
      go_wp2_with fail
      go_ret
      exact ⟨by rw [HF.out]; rfl, rfl⟩
set_option maxRecDepth 100000 in
theorem implMissingChunk (b : Nat) (v : Value) (l : List ByteArray) (t : Int) (w : World) (h : l.length ≤ 4194304) (hs : sumT l l.length ≤ 1048576) (o : OwnT b w v l) :
    Calls Try.prog 18 #[v, .int .i64 t] w fun e w' => e = .returned (.int .i64 (missC l t)) ∧ Below w.heap.size w w' := by
  obtain ⟨a, c, rfl, _, _, at1, _⟩ := o.form
  have J := Lib.hid (slicesIndexE a c l w h at1)
  clear o at1
  by_cases h1 : l.length = 0 ∧ 0 < t
  · have HF := Lib.hid (show missC l t = 0 by
      unfold missC
      rw [if_neg (by omega), if_pos h1])
    have g0 : ((l.length : Int) == 0) = true := by rw [beq_iff_eq]; omega
    have g1 : decide (t > 0) = true := decide_eq_true h1.2
    clear h1
    go_enter Try.func18, Try.ntmps18
    go_wp2_with fail
    go_ret
    exact ⟨by rw [HF.out]; rfl, Below.refl _ _⟩
  · have HF := Lib.hid (idxE_miss h1)
    by_cases h0 : l.length = 0
    · have g0 : ((l.length : Int) == 0) = true := by rw [beq_iff_eq]; omega
      have g1 : decide (t > 0) = false := decide_eq_false (fun h => h1 ⟨h0, h⟩)
      clear h1 h0
      go_enter Try.func18, Try.ntmps18
      go_wp2_with fail
      refine J.out.mono ?_
      rintro e w1 ⟨rfl, rfl⟩
      go_wp2_with fail
      go_ret
      exact ⟨by rw [HF.out]; rfl, Below.refl _ _⟩
    · have g0 : ((l.length : Int) == 0) = false := by rw [beq_eq_false_iff_ne]; omega
      clear h1 h0
      go_enter Try.func18, Try.ntmps18
      go_wp2_with fail
      refine J.out.mono ?_
      rintro e w1 ⟨rfl, rfl⟩
      go_wp2_with fail
      go_ret
      exact ⟨by rw [HF.out]; rfl, Below.refl _ _⟩
end Go.Proofs.Ytkkgonkpmdlelaa.kit
