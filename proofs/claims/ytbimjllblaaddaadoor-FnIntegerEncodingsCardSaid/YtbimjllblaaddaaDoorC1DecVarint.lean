/-
  Chapter 1, varints: what spec's and impl's DecodeVarint return, for every string.
-/
import Derived.Test.YtbimjllblaaddaaDoorC1Varint
import Derived.Deep.DeepCutAuto
import Derived.Deep.RegionWith
import Derived.Lib.Strings
namespace Go.Proofs.YtbimjllblaaddaaDoor.kit
open Go.ChangeShapes Go.WideShapes Go.ChangeAt Go.RowKit
set_option linter.unusedVariables false

/-- the number that groups of seven bits stand for, the least one first -/
def low : List UInt8 → Nat
  | [] => 0
  | b :: l => b.toNat % 128 + 128 * low l
theorem low_snoc (l : List UInt8) (b : UInt8) : low (l ++ [b]) = low l + b.toNat % 128 * 128 ^ l.length := by
  induction l with
  | nil => simp [low]
  | cons c l ih =>
    simp only [List.cons_append, low, ih, List.length_cons, Nat.pow_succ, Nat.mul_add]
    rw [Nat.add_assoc]
    congr 2
    rw [Nat.mul_comm 128, Nat.mul_assoc]
theorem low_lt (l : List UInt8) : low l < 128 ^ l.length := by
  induction l with
  | nil => simp [low]
  | cons c l ih =>
    simp only [low, List.length_cons, Nat.pow_succ]
    omega
theorem low_small {l : List UInt8} {k : Nat} (h : l.length ≤ k) (hk : k ≤ 7) : low l ≤ 562949953421311 := by
  have h1 := low_lt l
  have h2 := Nat.pow_le_pow_right (show 128 > 0 by omega) (Nat.le_trans h hk)
  have h3 : 128 ^ 7 = 562949953421312 := by decide
  omega
/-- a varint's bytes: the last one alone is below 128 -/
theorem vi_last : ∀ (k n : Nat), n < 128 ^ (k + 1) → ∀ j b, (vi n)[j]? = some b → (b.toNat < 128 ↔ j + 1 = (vi n).length) := by
  intro k
  induction k with
  | zero =>
    intro n h j b hb
    have hn : n < 128 := by simpa using h
    rw [vi_small hn] at hb ⊢
    rcases j with _ | j
    · simp at hb; subst hb; simp; omega
    · simp at hb
  | succ k ih =>
    intro n h j b hb
    by_cases hn : n < 128
    · rw [vi_small hn] at hb ⊢
      rcases j with _ | j
      · simp at hb; subst hb; simp; omega
      · simp at hb
    · have hd : n / 128 < 128 ^ (k + 1) := by rw [Nat.pow_succ] at h; omega
      have hne : (vi (n / 128)).length ≠ 0 := by
        rw [vi]; split <;> simp
      rw [vi_big hn] at hb ⊢
      rcases j with _ | j
      · simp at hb; subst hb; simp; constructor
        · intro h; omega
        · intro h; exact absurd (by simpa using h.symm) hne
      · simp at hb
        have := ih (n / 128) hd j b hb
        simp
        exact this
theorem encV_last (n : Int) {j : Nat} {b : UInt8} (h : (encV n)[j]? = some b) : b.toNat < 128 ↔ j + 1 = (encV n).length := by
  unfold encV at h ⊢
  split
  · rename_i hn
    rw [if_pos hn] at h
    exact vi_last 6 _ (by omega) j b h
  · rename_i hn
    rw [if_neg hn] at h
    simp at h

/-- the first k bytes of l are a varint -/
def Hit (l : List UInt8) (k : Nat) : Prop := k ≤ l.length ∧ encV (low (l.take k)) = l.take k
instance (l : List UInt8) (k : Nat) : Decidable (Hit l k) := inferInstanceAs (Decidable (_ ∧ _))
theorem Hit.stop {l : List UInt8} {k i : Nat} (h : Hit l k) (hi : i < k) (hl : i < l.length) : l[i].toNat < 128 ↔ i + 1 = k := by
  have hk : (l.take k).length = k := by rw [List.length_take]; have := h.1; omega
  have hb : (encV (low (l.take k)))[i]? = some l[i] := by
    rw [h.2, List.getElem?_take_of_lt hi, List.getElem?_eq_getElem hl]
  have := encV_last _ hb
  rw [h.2, hk] at this
  exact this
/-- DecodeVarint's two results -/
def decV (l : List UInt8) : Nat × Nat :=
  match (List.range 7).find? (fun i => decide (Hit l (i + 1))) with
  | some i => (low (l.take (i + 1)), i + 1)
  | none => (0, 0)
theorem find_range {p : Nat → Bool} : ∀ (n k : Nat), k < n → p k = true → (∀ j, j < k → p j = false) → (List.range n).find? p = some k := by
  intro n k hk hp hn
  rw [List.find?_eq_some_iff_append]
  refine ⟨hp, List.range k, (List.range' (k + 1) (n - k - 1)), ?_, ?_⟩
  · rw [List.range_eq_range', List.range_eq_range']
    have h1 : List.range' 0 n = List.range' 0 k ++ List.range' (0 + k) (n - k) := by rw [List.range'_append_1]; congr 1; omega
    rw [h1]
    congr 1
    have h2 : n - k = (n - k - 1) + 1 := by omega
    rw [h2, List.range'_succ]
    simp
  · intro a ha
    simp [hn a (by simpa using ha)]
theorem decV_hit {l : List UInt8} {k : Nat} (h1 : 1 ≤ k) (h7 : k ≤ 7) (h : Hit l k) (hn : ∀ j, 1 ≤ j → j < k → ¬ Hit l j) : decV l = (low (l.take k), k) := by
  unfold decV
  have he : k - 1 + 1 = k := by omega
  rw [find_range 7 (k - 1) (by omega) (by rw [he]; simpa using h) (fun j hj => by simpa using hn (j + 1) (by omega) (by omega))]
  simp only [he]
theorem decV_none {l : List UInt8} (hn : ∀ j, 1 ≤ j → j ≤ 7 → ¬ Hit l j) : decV l = (0, 0) := by
  unfold decV
  have : (List.range 7).find? (fun i => decide (Hit l (i + 1))) = none := by
    rw [List.find?_eq_none]
    intro i hi
    simpa using hn (i + 1) (by omega) (by have := List.mem_range.1 hi; omega)
  rw [this]
/-- the first byte below 128 stands at i: no other prefix can be a varint -/
theorem decV_at {l : List UInt8} {i : Nat} (hi : i < l.length) (h7 : i < 7) (hb : l[i].toNat < 128) (hhi : ∀ j (h : j < l.length), j < i → 128 ≤ l[j].toNat) : decV l = if encV (low (l.take (i + 1))) = l.take (i + 1) then (low (l.take (i + 1)), i + 1) else (0, 0) := by
  have hno : ∀ j, 1 ≤ j → j ≤ 7 → j ≠ i + 1 → ¬ Hit l j := by
    intro j h1 _ hne hh
    by_cases hj : j < i + 1
    · have hj' : j - 1 < l.length := by omega
      have := hh.stop (i := j - 1) (by omega) hj'
      have h2 := hhi (j - 1) hj' (by omega)
      omega
    · have := hh.stop (i := i) (by omega) hi
      omega
  split
  · rename_i h
    exact decV_hit (by omega) (by omega) ⟨by omega, h⟩ (fun j h1 h2 => hno j h1 (by omega) (by omega))
  · rename_i h
    refine decV_none fun j h1 h2 hh => ?_
    by_cases hj : j = i + 1
    · subst hj; exact h hh.2
    · exact hno j h1 h2 hj hh
theorem decV_end {l : List UInt8} (hhi : ∀ j (h : j < l.length), j < 7 → 128 ≤ l[j].toNat) : decV l = (0, 0) := by
  refine decV_none fun j h1 h7 hh => ?_
  have hl := hh.1
  have := hh.stop (i := j - 1) (by omega) (by omega)
  have := hhi (j - 1) (by omega) (by omega)
  omega
theorem low_step (l : List UInt8) (t k : Nat) (htk : t < k) (hk : k ≤ l.length) : low ((l.take k).drop t) = low ((l.take k).drop (t + 1)) * 128 + (l[t]'(by omega)).toNat % 128 := by
  have h : t < (l.take k).length := by rw [List.length_take]; omega
  rw [List.drop_eq_getElem_cons h, low, List.getElem_take]
  omega
theorem and127_u8 (b : UInt8) : bits .and .u8 (b.toNat : Int) 127 = ((b.toNat % 128 : Nat) : Int) := by
  have h : ∀ n : Nat, n < 256 → bits .and .u8 (n : Int) 127 = ((n % 128 : Nat) : Int) := by decide +kernel
  exact h b.toNat b.toNat_lt
theorem or_group (m b k : Nat) (h : m < 128 ^ k) : m ||| b * 2 ^ (7 * k) = m + b * 128 ^ k := by
  have h2 : (2 : Nat) ^ (7 * k) = 128 ^ k := by rw [Nat.pow_mul]
  rw [h2]
  have h3 : m < 2 ^ (7 * k) := by rw [h2]; exact h
  have := Nat.shiftLeft_add_eq_or_of_lt h3 b
  rw [Nat.shiftLeft_eq, h2] at this
  rw [Nat.or_comm, ← this, Nat.add_comm]
theorem or_step (m b k : Nat) (hk : k ≤ 6) (hm : m < 128 ^ k) (hb : b < 128) : bits .or .i64 (m : Int) (wrap64 ((b : Int) * 2 ^ (7 * k))) = ((m + b * 128 ^ k : Nat) : Int) := by
  have h2 : (2 : Nat) ^ (7 * k) = 128 ^ k := by rw [Nat.pow_mul]
  have hp := Nat.pow_le_pow_right (show 128 > 0 by omega) hk
  have h6 : 128 ^ 6 = 4398046511104 := by decide
  have hbk : b * 128 ^ k ≤ 127 * 4398046511104 := Nat.mul_le_mul (by omega) (by omega)
  have e : (b : Int) * 2 ^ (7 * k) = ((b * 2 ^ (7 * k) : Nat) : Int) := by simp
  rw [← or_group m b k hm, e, IntWalk.wrap64_in _ ⟨by omega, by rw [h2]; omega⟩, i64_or_nat m _ (by omega) (by rw [h2]; omega)]
set_option maxRecDepth 100000 in
theorem implDecodeVarint (s : ByteArray) (w : World) (hs : s.size ≤ maxLen) :
    Calls Tryd.prog 10 #[.string s] w fun e w' => e = .returned (.tuple #[.int .i64 ((decV s.data.toList).1 : Nat), .int .i64 ((decV s.data.toList).2 : Nat)]) ∧ Below w.heap.size w w' := by
  have hsz : s.data.toList.length = s.size := by rw [Array.length_toList]; rfl
  have HZ := Lib.hid hsz
  clear hsz
  unfold maxLen at hs
  go_enter Tryd.func10, Tryd.ntmps10
  go_wp2_with fail
  go_loopw [4, 5] (fun n c wr => ∃ k m : Nat, k ≤ 7 ∧ k ≤ s.size ∧ c = .int .i64 k ∧ n = .int .i64 m ∧ Hid (m = low (s.data.toList.take k)) ∧ Hid (∀ j (h : j < s.data.toList.length), j < k → 128 ≤ s.data.toList[j].toNat) ∧ Below w.heap.size w wr) (fun _ c _ => 8 - (intOf c).toNat)
  case atStart => exact ⟨0, 0, by omega, by omega, rfl, rfl, Lib.hid rfl, Lib.hid (fun j h1 h2 => by omega), Below.refl _ _⟩
  case round =>
    obtain ⟨k, m, hk7, hks, rfl, rfl, hm, HH, hb⟩ := hrel
    by_cases hle : k < s.size
    · by_cases hlt : k < 7
      · have hm1 : m < 128 ^ k := by
          have h := low_lt (s.data.toList.take k)
          rw [← hm.out, List.length_take, HZ.out, Nat.min_eq_left hks] at h
          exact h
        have e1 := and127_u8 s[k]
        have hx : s[k].toNat % 128 < 128 := Nat.mod_lt _ (by omega)
        have hbk : s[k].toNat < 256 := s[k].toNat_lt
        have e2 := or_step m (s[k].toNat % 128) k (by omega) hm1 hx
        rw [show ((s[k].toNat % 128 : Nat) : Int) = (s[k].toNat : Int) % 128 from rfl] at e2
        have hm2 : Hid (m + s[k].toNat % 128 * 128 ^ k = low (s.data.toList.take (k + 1))) := by
          apply Lib.hid
          rw [take_snoc s k hle, low_snoc, ← hm.out, List.length_take, HZ.out, Nat.min_eq_left hks]
        obtain ⟨m', hm'⟩ : ∃ m', m' = m + s[k].toNat % 128 * 128 ^ k := ⟨_, rfl⟩
        rw [← hm'] at e2 hm2
        have HM := Lib.hid hm'
        clear hm1 hm'
        by_cases h128 : 128 ≤ s[k].toNat
        · go_wp2_with fail
          go_roundw
          case rel =>
            refine ⟨k + 1, m', by omega, by omega, by go_num, rfl, hm2, Lib.hid (fun j h1 h2 => ?_), hb⟩
            by_cases hj : j = k
            · subst hj; exact h128
            · exact HH.out j h1 (by omega)
          case measure => simp [intOf]; omega
        · have hm8 : m' ≤ 9223372036854775807 := by
            have := low_small (l := s.data.toList.take (k + 1)) (List.length_take_le _ _) (by omega)
            rw [← hm2.out] at this
            omega
          have c2 := fun W => Lib.hid (implEncodeVarint m' W (by omega))
          have hle1 : k + 1 ≤ s.size := hle
          have hle2 : (k : Int) + 1 ≤ s.size := by omega
          go_upto_region 7 with fail
          go_cut [36] (fun b wx => ∃ c : Bool, b = .bool c ∧ Hid (c = !decide (encV m' = s.data.toList.take (k + 1))) ∧ Below w.heap.size w wx)
          case first =>
            have hw1 : IntKind.i64.wrap ((k : Int) + 1) = (k : Int) + 1 := IntWalk.i64_in _ (by omega)
            have hw2 : (0 : Int) ≤ (k : Int) + 1 := by omega
            have hw3 : ((k : Int) + 1).toNat = k + 1 := by omega
            go_region_with (go_at_call 9; refine ((c2 _).out).mono ?_; rintro e w1 ⟨rfl, hb1⟩)
            all_goals
              clear hw1 hw2 hw3
              go_wp2_with fail
              go_meet
              exact ⟨_, rfl, Lib.hid (by rw [Lib.extract_toList, Bool.eq_iff_iff]; simp), hb.drew.trans (hb1.mono hb.size)⟩
          case rest =>
            obtain ⟨c, rfl, hc, hb2⟩ := hcut
            have HD := decV_at (l := s.data.toList) (i := k) (by rw [HZ.out]; exact hle) hlt (by have : s.data.toList[k]'(by rw [HZ.out]; exact hle) = s[k] := rfl; rw [this]; omega) HH.out
            rw [← hm2.out] at HD
            have HD' := Lib.hid HD
            clear HD
            cases c with
            | false =>
              go_wp2_with fail
              go_ret2
              refine ⟨?_, hb2⟩
              rw [HD'.out, if_pos (by simpa using hc.out)]; rfl
            | true =>
              go_wp2_with fail
              go_ret2
              refine ⟨?_, hb2⟩
              rw [HD'.out, if_neg (by simpa using hc.out.symm)]; rfl
      · have HD := Lib.hid (decV_end (l := s.data.toList) (fun j h1 h2 => HH.out j h1 (by omega)))
        go_wp2_with fail
        go_ret2
        refine ⟨?_, hb⟩
        rw [HD.out]; rfl
    · have HD := Lib.hid (decV_end (l := s.data.toList) (fun j h1 h2 => HH.out j h1 (by rw [HZ.out] at h1; omega)))
      go_wp2_with fail
      go_ret2
      refine ⟨?_, hb⟩
      rw [HD.out]; rfl
end Go.Proofs.YtbimjllblaaddaaDoor.kit
