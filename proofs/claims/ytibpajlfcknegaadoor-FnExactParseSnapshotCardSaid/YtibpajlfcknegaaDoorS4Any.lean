/-
  strings.IndexAny for the two signs, over every string of at most eight bytes.
-/
import Derived.Test.YtibpajlfcknegaaDoorS4Rune
import Derived.Test.YtibpajlfcknegaaDoorS4Math
namespace Go.Proofs.YtibpajlfcknegaaDoor.kit
open Go.ChangeShapes Go.WideShapes Go.ChangeAt Go.RowKit
set_option linter.unusedVariables false
set_option linter.unusedSimpArgs false

theorem any_none : ∀ {l : List UInt8}, (∀ b ∈ l, b ≠ 43 ∧ b ≠ 45) → Lib.indexAny l [43, 45] = -1
  | [], _ => rfl
  | a :: l, h => by
    have ih := any_none (l := l) (fun b hb => h b (List.mem_cons_of_mem _ hb))
    have ha := h a (by simp)
    have hc : ([43, 45] : List UInt8).contains a = false := by simp [ha.1, ha.2]
    rw [Lib.indexAny, hc, ih]
    rfl
/-- no sign among the first k bytes -/
def noSign (s : ByteArray) (k : Nat) : Prop := ∀ b ∈ s.data.toList.take k, b ≠ 43 ∧ b ≠ 45
theorem noSign_hit {s : ByteArray} {k : Nat} (hk : k < s.size) (h : noSign s k) (hb : s[k] = 43 ∨ s[k] = 45) : Lib.indexAny s.data.toList [43, 45] = (k : Int) := by
  have hl : k < s.data.toList.length := by rw [Array.length_toList]; exact hk
  have e : s.data.toList = s.data.toList.take k ++ s[k] :: s.data.toList.drop (k + 1) := by
    conv => lhs; rw [← List.take_append_drop k s.data.toList, List.drop_eq_getElem_cons hl]
    rfl
  have hlk : (s.data.toList.take k).length = k := by rw [List.length_take, Array.length_toList]; exact Nat.min_eq_left (Nat.le_of_lt hk)
  rw [e, any_app (fun h' => (h 43 h').1 rfl) (fun h' => (h 45 h').2 rfl) hb, hlk]
theorem noSign_one {s : ByteArray} {k : Nat} (hk : k < s.size) (h : noSign s k) (hb : s[k] ≠ 43 ∧ s[k] ≠ 45) : noSign s (k + 1) := by
  have hl : k < s.data.toList.length := by rw [Array.length_toList]; exact hk
  intro b hm
  rw [List.take_succ_eq_append_getElem hl, List.mem_append] at hm
  rcases hm with hm | hm
  · exact h b hm
  · simp only [List.mem_cons, List.not_mem_nil, or_false] at hm
    rw [hm]
    exact hb
set_option maxRecDepth 100000 in
theorem decode_bytes (s : ByteArray) (pos : Nat) (h : pos < s.size) (ha : 128 ≤ (s[pos]'h).toNat) : ∀ j, j < (Utf8.decode s pos).2 → pos + j < s.size ∧ 128 ≤ (s.get! (pos + j)).toNat := by
  have hn : ¬ (s[pos]'h).toNat < 128 := by omega
  have h0 : 128 ≤ (s.get! (pos + 0)).toNat := by rw [get_at s pos h]; exact ha
  have hd : (Utf8.decode s pos).2 ≤ 4 := by
    simp only [Utf8.decode, get_at s pos h, hn, if_false]
    repeat' split
    all_goals simp
  intro j hj
  have hj4 : j = 0 ∨ j = 1 ∨ j = 2 ∨ j = 3 := by omega
  simp only [Utf8.decode, get_at s pos h, hn, if_false] at hj
  revert hj
  repeat' split
  all_goals (intro hj; rcases hj4 with rfl | rfl | rfl | rfl)
  all_goals first
    | (exact ⟨h, h0⟩)
    | (simp at hj; done)
    | (simp_all; omega)
theorem noSign_wide {s : ByteArray} {k d : Nat} (h : noSign s k) (hd : ∀ j, j < d → k + j < s.size ∧ 128 ≤ (s.get! (k + j)).toNat) : ∀ j, j ≤ d → noSign s (k + j) := by
  intro j
  induction j with
  | zero => intro _; exact h
  | succ j ih =>
    intro hj
    obtain ⟨h1, h2⟩ := hd j (by omega)
    have e : s.get! (k + j) = s[k + j] := get_at s (k + j) h1
    rw [e] at h2
    have n1 : s[k + j] ≠ 43 := fun e => by rw [e] at h2; revert h2; decide
    have n2 : s[k + j] ≠ 45 := fun e => by rw [e] at h2; revert h2; decide
    exact noSign_one h1 (ih (by omega)) ⟨n1, n2⟩
theorem noSign_all {s : ByteArray} {k : Nat} (hk : s.size ≤ k) (h : noSign s k) : Lib.indexAny s.data.toList [43, 45] = -1 := by
  refine any_none (fun b hb => h b ?_)
  rw [List.take_of_length_le (by rw [Array.length_toList]; exact hk)]
  exact hb
set_option maxRecDepth 100000 in
theorem indexAny_short (s : ByteArray) (w : World) (h8 : s.size ≤ 8) :
    Calls Tryd.prog 50 #[.string s, .string pmStr] w fun e w' => e = .returned (.int .i64 (Lib.indexAny s.data.toList [43, 45])) ∧ Below w.heap.size w w' := by
  have g8 : decide (8 < s.size) = false := decide_eq_false (by omega)
  go_enter Tryd.func50, Tryd.ntmps50
  have f1 : pmStr.toList.isEmpty = false := by rw [ByteArray.toList_eq]; rfl
  have f2 : ((pmStr.size : Int) == 1) = false := rfl
  go_wp2_with (go_at_call 69; go_enter Tryd.func69, Tryd.ntmps69)
  go_loopw [4] (fun v wr => ∃ k : Nat, k ≤ s.size ∧ v = .int .i64 0 ∧ wr.heap[w.heap.size]? = some (.stringIter s k) ∧ Hid (noSign s k) ∧ Below w.heap.size w wr) (fun _ wr => s.size - wr.iterPos w.heap.size)
  case atStart =>
    refine ⟨0, Nat.zero_le _, rfl, ?_, Lib.hid (fun b hb => by simp at hb), (Below.refl _ _).alloc (Nat.le_refl _) _⟩
    have h := World.iter_heap w s 0
    simpa using h
  case round =>
    obtain ⟨k, hk, rfl, hit, hns, hb⟩ := hrel
    have HIT := Lib.hid hit
    have HPOS : Hid (wr.iterPos w.heap.size = k) := Lib.hid (iterPos_of hit)
    have hK : w.heap.size < wr.heap.size := (Array.getElem?_eq_some_iff.1 hit).1
    clear hit
    by_cases hlt : k < s.size
    · by_cases hlow : s[k].toNat < 128
      · have hnx := fun ty => Lib.run_next_ascii_at (P := Tryd.prog) wr w.heap.size s k ty HIT.out hlt hlow
        have HITA := Lib.hid (Lib.iterAt_heap wr w.heap.size s k (k + 1) HIT.out)
        have hbA := Lib.below_iterAt hb (Nat.le_refl _) s (k + 1)
        by_cases hs : s[k] = 43 ∨ s[k] = 45
        · have HF := Lib.hid (noSign_hit hlt hns.out hs)
          obtain ⟨q, hq1, hq⟩ : ∃ q : Nat, q ≤ 1 ∧ Lib.indexByte pmStr.data.toList ((s[k].toNat : Int)).toNat.toUInt8 = (q : Int) := by
            rcases hs with e | e
            · rw [e]; exact ⟨0, by omega, by decide⟩
            · rw [e]; exact ⟨1, by omega, by decide⟩
          have c1 := fun W => Tryd.strings_IndexRune_ascii pmStr (s[k].toNat : Int) W (by omega) (by omega)
          rw [hq] at c1
          have C1 := fun W => Lib.hid (c1 W)
          have q0 : (0 : Int) ≤ (q : Int) := by omega
          clear c1 hq hs
          go_wp2_with (go_at_call 68; refine ((C1 _).out).mono ?_; rintro e w1 ⟨rfl, rfl⟩)
          go_ret
          exact ⟨by rw [HF.out]; rfl, hbA⟩
        · have HN := Lib.hid (noSign_one hlt hns.out (by constructor <;> (intro e; exact hs (by simp [e]))))
          have hq : Lib.indexByte pmStr.data.toList ((s[k].toNat : Int)).toNat.toUInt8 = -1 := by
            refine indexByte_none _ _ (fun b hb e => hs ?_)
            have e2 : ((s[k].toNat : Int)).toNat.toUInt8 = s[k] := by simp
            rw [e2] at e
            have hb2 : b = 43 ∨ b = 45 := by
              have : b ∈ ([43, 45] : List UInt8) := hb
              simpa using this
            rw [← e]; exact hb2
          have c1 := fun W => Tryd.strings_IndexRune_ascii pmStr (s[k].toNat : Int) W (by omega) (by omega)
          rw [hq] at c1
          have C1 := fun W => Lib.hid (c1 W)
          clear c1 hq hs
          go_wp2_with (go_at_call 68; refine ((C1 _).out).mono ?_; rintro e w1 ⟨rfl, rfl⟩)
          go_roundw
          case rel => exact ⟨k + 1, by omega, rfl, HITA.out, HN, hbA⟩
          case measure => rw [HPOS.out, iterPos_of HITA.out]; omega
      · have hdb := decode_bytes s k hlt (by omega)
        have hnx := fun ty => Lib.run_next_any_at (P := Tryd.prog) wr w.heap.size s k ty HIT.out hlt
        have hd1 := decode_high s k hlt (by omega)
        obtain ⟨d, hd⟩ : ∃ d, d = Utf8.decode s k := ⟨_, rfl⟩
        simp only [← hd] at hnx hd1 hdb
        clear hd
        obtain ⟨r, n⟩ := d
        simp only at hnx hd1 hdb
        have hle := (hdb (n - 1) (by omega)).1
        have HN := Lib.hid (noSign_wide hns.out hdb n (Nat.le_refl _))
        have HITA := Lib.hid (Lib.iterAt_heap wr w.heap.size s k (k + n) HIT.out)
        have hbA := Lib.below_iterAt hb (Nat.le_refl _) s (k + n)
        have C1 := fun W => Lib.hid (pmRune_high (r : Int) W (by omega))
        have HZ := Lib.hid hbA.size
        clear hdb
        go_wp2_with (go_at_call 68; refine ((C1 _).out).mono ?_; rintro e w1 ⟨rfl, hb1⟩)
        have HIT1 := Lib.hid ((hb1.block _ (by rw [Lib.iterAt_size]; exact hK)).trans HITA.out)
        go_roundw
        case rel => exact ⟨k + n, by omega, rfl, HIT1.out, HN, hbA.trans (hb1.mono HZ.out)⟩
        case measure => rw [HPOS.out, iterPos_of HIT1.out]; omega
    · obtain rfl : k = s.size := by omega
      have hnx := fun ty => Lib.run_next_end_at (P := Tryd.prog) wr w.heap.size s s.size ty HIT.out hlt
      have HF := Lib.hid (noSign_all (Nat.le_refl _) hns.out)
      go_wp2_with fail
      go_ret
      exact ⟨by rw [HF.out]; rfl, hb⟩
theorem indexAnyPM (s : ByteArray) (w : World) (hs : s.size ≤ 1048576) :
    Calls Tryd.prog 50 #[.string s, .string pmStr] w fun e w' => e = .returned (.int .i64 (Lib.indexAny s.data.toList [43, 45])) ∧ Below w.heap.size w w' := by
  by_cases h8 : s.size ≤ 8
  · exact indexAny_short s w h8
  · refine (Tryd.strings_IndexAny_long (zero_of_info (n := 256) (by kernel_rfl)).1 s pmStr w (by decide) (by omega) (by omega) (by decide) (fun j b hb => ?_)).mono ?_
    · have hm : b ∈ ([43, 45] : List UInt8) := List.mem_of_getElem? hb
      simp only [List.mem_cons, List.not_mem_nil, or_false] at hm
      rcases hm with rfl | rfl <;> decide
    · rintro e w' ⟨rfl, rfl⟩
      exact ⟨rfl, ((Below.refl _ _).alloc (Nat.le_refl _) _).alloc (by simp) _⟩
end Go.Proofs.YtibpajlfcknegaaDoor.kit
