/-
  strings.SplitN at one sign: the words of a text, in a row of the call's own.
-/
import Derived.Test.YtmojigimlhjphaaDoorParts
import Derived.Test.YtmojigimlhjphaaDoorMxCell
namespace Go.Proofs.YtmojigimlhjphaaDoor.kit
open Go.ChangeShapes Go.WideShapes Go.ChangeAt Go.RowKit
set_option linter.unusedVariables false
set_option linter.unusedSimpArgs false

theorem split_far (x : UInt8) : ∀ (n : Nat) (l : List UInt8), l.length ≤ n → ∀ k k', l.length ≤ k → l.length ≤ k' → Lib.splitK [x] 0 k l = Lib.splitK [x] 0 k' l
  | n, l, hn, k, k', h, h' => by
    rcases first_x x l with hx | ⟨a, r, ha, rfl⟩
    · rw [split_none hx, split_none hx]
    · match n, k, k' with
      | 0, _, _ => simp at hn
      | _, 0, _ => simp at h
      | _, _, 0 => simp at h'
      | n + 1, k + 1, k' + 1 =>
        rw [split_app ha, split_app ha, split_far x n r (by simp at hn; omega) k k' (by simp at h; omega) (by simp at h'; omega)]
theorem words_min (x : UInt8) (n : Nat) (l : List UInt8) : Lib.splitK [x] 0 (min (n + 1) (l.length + 1) - 1) l = Lib.splitK [x] 0 n l := by
  by_cases h : n + 1 ≤ l.length + 1
  · rw [Nat.min_eq_left h]; rfl
  · exact split_far x _ l (Nat.le_refl _) _ _ (by omega) (by omega)
theorem splitWordsK (x : UInt8) (n : Nat) (hn : n ≤ 100) (s : ByteArray) (w : World) (hs : s.size ≤ 1048576) (hM : Mx w) :
    Calls Tryd.prog 25 #[.string s, .string { data := #[x] }, .int .i64 ((n + 1 : Nat) : Int)] w fun e w' => ∃ g cap, e = .returned (.slice (some ⟨g, 0, none⟩) (Lib.splitK [x] 0 n s.data.toList).length cap) ∧ (Lib.splitK [x] 0 n s.data.toList).length ≤ cap ∧ cap ≤ n + 1 ∧ w.heap.size ≤ g ∧
      PartsAt w' g (Lib.splitK [x] 0 n s.data.toList) ∧ Below w.heap.size w w' := by
  obtain ⟨m, hm⟩ := hM
  have hl : s.data.toList.length = s.size := by rw [Array.length_toList]; rfl
  refine (Tryd.strings_SplitN s { data := #[x] } (n + 1) m w (by omega) hm (by show 1 ≤ 1; omega) (by omega) (by omega)).mono ?_
  rintro e w' ⟨rfl, rfl⟩
  have hd := Lib.splitB_data { data := #[x] } 0 (min (n + 1) (s.size + 1) - 1) s
  have hle := Lib.splitB_length_le { data := #[x] } 0 (min (n + 1) (s.size + 1) - 1) s
  have hw : Lib.splitK [x] 0 n s.data.toList = (Lib.splitB { data := #[x] } 0 (min (n + 1) (s.size + 1) - 1) s).map (·.data.toList) := by rw [hd, ← words_min, hl]
  generalize Lib.splitB { data := #[x] } 0 (min (n + 1) (s.size + 1) - 1) s = X at *
  have hlen : (Lib.splitK [x] 0 n s.data.toList).length = X.length := by rw [hw, List.length_map]
  refine ⟨w.heap.size, min (n + 1) (s.size + 1), by rw [hlen], by rw [hlen]; omega, by omega, Nat.le_refl _, ⟨⟨_, _, heap_alloc_new w _⟩, fun j hj => ?_⟩, (Below.refl _ _).alloc (Nat.le_refl _) _⟩
  rw [World.cell?_alloc_at _ _ _ _ rfl]
  rw [hlen] at hj
  unfold Lib.cellsOf
  rw [List.getElem?_toArray, List.getElem?_append_left (by simpa using hj), hw]
  simp [hj]
end Go.Proofs.YtmojigimlhjphaaDoor.kit
