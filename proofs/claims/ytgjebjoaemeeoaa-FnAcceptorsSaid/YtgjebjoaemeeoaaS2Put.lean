/-
  Chapter 2, the specification's sets: a number put into a list in order; the union, the intersection, the difference.
-/
import Derived.Test.YtgjebjoaemeeoaaS2Plain
import Derived.Test.YtgjebjoaemeeoaaSetMath2
namespace Go.Proofs.Ytgjebjoaemeeoaa.kit
open Go.ChangeShapes Go.WideShapes Go.ChangeAt Go.RowKit
set_option linter.unusedVariables false

set_option maxRecDepth 100000 in
set_option maxHeartbeats 2000000 in
theorem specPut (b : Nat) (v : Value) (l : List Int) (x : Int) (w : World) (hl : l.length ≤ 4194304) (o : OwnI b w v l) :
    Calls Try.prog 64 #[v, .int .i64 x] w fun e w' => ∃ v', e = .returned v' ∧ OwnI w.heap.size w' v' (put l x) ∧ Below w.heap.size w w' := by
  obtain ⟨a, c, rfl, hlc, hcm, hat, hblk⟩ := o.form
  have HA := Lib.hid hat
  have HO := Lib.hid o
  have HK := Lib.hid hblk
  clear hat o hblk
  unfold maxLen at hcm
  go_enter Try.func64, Try.ntmps64
  go_wp2_with fail
  go_loop [5] (fun i => ∃ k : Nat, k ≤ l.length ∧ i = .int .i64 k ∧ Hid (∀ j, j < k → l.getD j 0 < x)) (fun i => l.length - (intOf i).toNat)
  case atStart => exact ⟨0, Nat.zero_le _, rfl, Lib.hid (fun j h => by omega)⟩
  case round =>
    obtain ⟨k, hk, rfl, HE⟩ := hrel
    by_cases hlt : k < l.length
    · obtain ⟨p, rfl, hp, hc⟩ := HA.out k hlt
      by_cases hz : l.getD k 0 < x
      · have HF := Lib.hid (show ∀ j, j < k + 1 → l.getD j 0 < x from fun j hj => by
          by_cases e : j = k
          · subst e; exact hz
          · exact HE.out j (by omega))
        generalize l.getD k 0 = z at *
        go_wp2_with fail
        go_round
        case rel => exact ⟨k + 1, by omega, by go_num, HF⟩
        case measure => simp [intOf]; omega
      · have HL := Lib.hid (low_eq hk HE.out (fun _ => hz))
        by_cases he : l.getD k 0 = x
        · have HP := Lib.hid (show put l x = l by unfold put; rw [HL.out, if_pos ⟨hlt, he⟩])
          obtain ⟨g, c', hv, _, _, _, hg⟩ := HO.out.there (by omega)
          obtain ⟨rfl, rfl⟩ : p = ⟨g, 0, none⟩ ∧ c = c' := by cases hv; exact ⟨rfl, rfl⟩
          have hs0 := HO.out.cells
          have HS := Lib.hid (show ∀ j, j < l.length → w.cell? ⟨g, j, none⟩ = some (.int .i64 (l.getD j 0)) from fun j hj => by have := hs0 j hj; rwa [Nat.zero_add] at this)
          replace hc := HS.out k hlt
          rw [he] at hc
          have g1 : decide (x < x) = false := by simp
          clear hv hs0 hz he
          go_wp2_with (at_builtin; refine wpList_appI rfl (.tmp 32) (.tmp 33) rfl w.heap.size _ [] rfl (World.ownsRow_lit w #[] 0 (Nat.le_refl _) (Nat.zero_le _) rfl) w.heap.size _ l rfl (SrcI.row hg rfl (fun j hj => ((Below.refl w.heap.size w).alloc (Nat.le_refl _) _).cell hg |>.trans (HS.out j hj))) (by simp <;> omega) (by simp) ?_; intro v1 w1 ho1 hb1 hg1)
          go_ret
          exact ⟨v1, rfl, by rw [HP.out]; simpa using ho1, ((Below.refl _ _).alloc (Nat.le_refl _) _).trans hb1⟩
        · have HP := Lib.hid (show put l x = l.take k ++ x :: l.drop k by unfold put; rw [HL.out, if_neg (fun h => he h.2)])
          obtain ⟨g, c', hv, _, _, _, hg⟩ := HO.out.there (by omega)
          obtain ⟨rfl, rfl⟩ : p = ⟨g, 0, none⟩ ∧ c = c' := by cases hv; exact ⟨rfl, rfl⟩
          have hs0 := HO.out.cells
          have HS := Lib.hid (show ∀ j, j < l.length → w.cell? ⟨g, j, none⟩ = some (.int .i64 (l.getD j 0)) from fun j hj => by have := hs0 j hj; rwa [Nat.zero_add] at this)
          replace hc := HS.out k hlt
          generalize l.getD k 0 = z at *
          have g2 : (z == x) = false := by rw [beq_eq_false_iff_ne]; exact he
          have hkc : k < c := by omega
          have hkc1 : k ≤ c := by omega
          have hkl : k ≤ l.length := by omega
          have hck : ¬ c = k := by omega
          clear hv hs0 he
          go_wp2_with fail
          clear g2 hc hz
          have HS1 := Lib.hid (SrcI.row (w := w) (B := w.heap.size) (g := g) (m := k) (c := c) (l := l.take k) hg (by rw [List.length_take]; omega) (fun j hj => by rw [List.length_take] at hj; rw [getD_take (by omega)]; exact HS.out j (by omega)))
          have HS2 := Lib.hid (SrcI.part (w := w) (B := w.heap.size) (g := g) (off := k) (m := l.length - k) (c := c - k) (l := l.drop k) hg (by rw [List.length_drop]) (fun j hj => by rw [List.length_drop] at hj; have := HS.out (k + j) (by omega); rwa [show l.getD (k + j) 0 = (l.drop k).getD j 0 by simp [List.getD]] at this))
          have HX1 := Lib.hid (show SrcI (w.heap.size + 2) ((w.alloc (.cells #[] 3)).alloc (.cells #[.int .i64 x] 3)) (.slice (some ⟨w.heap.size + 1, 0, none⟩) 1 1) [x] by have h := SrcI.lit (w.alloc (.cells #[] 3)) x; simp only [World.size_alloc] at h; exact h)
          have HX2 := Lib.hid (SrcI.lit w x)
          have HE1 := Lib.hid (show OwnI w.heap.size (w.alloc (.cells #[] 3)) (.slice (some ⟨w.heap.size, 0, none⟩) 0 0) [] from World.ownsRow_lit w #[] 0 (Nat.le_refl _) (Nat.zero_le _) rfl)
          have HE2 := Lib.hid (show OwnI w.heap.size ((w.alloc (.cells #[.int .i64 x] 3)).alloc (.cells #[] 3)) (.slice (some ⟨w.heap.size + 1, 0, none⟩) 0 0) [] by have h := World.ownsRow_lit (e := 3) (size := 1) (base := w.heap.size) (w.alloc (.cells #[.int .i64 x] 3)) #[] 0 (by simp) (Nat.zero_le _) rfl; simp only [World.size_alloc] at h; exact h)
          go_region_law (first
            | (refine step_appI rfl (.tmp 35) (.tmp 38) rfl w.heap.size _ [] rfl (by first | (exact OwnI.later HE1.out (by go_grown)) | (exact OwnI.later HE2.out (by go_grown))) w.heap.size _ (l.take k) rfl (HS1.out.below (B' := w.heap.size) (by go_grown) (Nat.le_refl _)) (by simp <;> omega) (by go_size) ?_; intro v1 w1 ho1 hb1 hg1; have hz1 : w.heap.size ≤ w1.heap.size := Nat.le_trans (by go_size) hb1.size; have HB1 : Below w.heap.size w w1 := Below.trans (by go_grown) hb1)
            | (refine step_appI rfl (.tmp 39) (.tmp 41) rfl w.heap.size _ ([] ++ l.take k) rfl (OwnI.later ho1 (by go_grown)) _ _ [x] rfl (by first | (exact (SrcI.lit w1 x).below (B' := w1.heap.size + 1) (by go_grown) (Nat.le_refl _)) | (exact SrcI.grown (B := w.heap.size + 2) (HX1.out.below (B' := w.heap.size + 2) (by go_grown) (Nat.le_refl _)) hg1 (by go_size) (fun g ad n c e1 e2 => by cases e1; cases e2; simp)) | (exact SrcI.grown (B := w.heap.size + 1) (HX2.out.below (B' := w.heap.size + 1) (by go_grown) (Nat.le_refl _)) hg1 (by go_size) (fun g ad n c e1 e2 => by cases e1; cases e2; simp))) (by simp <;> omega) (by go_size) ?_; intro v2 w2 ho2 hb2 hg2; have hz2 : w.heap.size ≤ w2.heap.size := Nat.le_trans (by go_size) hb2.size; have HB2 : Below w.heap.size w w2 := Below.trans (by go_grown) hb2)
            | (refine step_appI rfl (.tmp 42) (.tmp 45) rfl w.heap.size _ (([] ++ l.take k) ++ [x]) rfl (OwnI.later ho2 (by go_grown)) w.heap.size _ (l.drop k) rfl (HS2.out.below (B' := w.heap.size) (by go_grown) (Nat.le_refl _)) (by simp <;> omega) (by go_size) ?_; intro v3 w3 ho3 hb3 hg3; have HB3 : Below w.heap.size w w3 := Below.trans (by go_grown) hb3))
          all_goals
            go_wp2_with fail
            go_ret
            exact ⟨v3, rfl, by rw [HP.out]; simpa using ho3, HB3⟩
    · have HL := Lib.hid (low_eq hk HE.out (fun h => absurd h hlt))
      obtain rfl : k = l.length := by omega
      have HP := Lib.hid (show put l x = l.take l.length ++ x :: l.drop l.length by unfold put; rw [HL.out, if_neg (fun h => by omega)])
      clear hlt hk
      have hkc : ∀ c : Nat, l.length ≤ c → ¬ (c < l.length) := fun c h => by omega
      rcases HO.out.2 with ⟨hv, h0⟩ | ⟨g, c', cur, hv, hg0, hh, hn, hm, _⟩
      · obtain rfl : l = [] := List.eq_nil_of_length_eq_zero h0
        cases hv
        have HS1 := Lib.hid (show SrcI w.heap.size w (.slice none 0 0) (([] : List Int).take 0) from .inl ⟨rfl, rfl⟩)
        have HS2 := Lib.hid (show SrcI w.heap.size w (.slice none 0 0) (([] : List Int).drop 0) from .inl ⟨rfl, rfl⟩)
        have hkl : ([] : List Int).length ≤ ([] : List Int).length := Nat.le_refl _
        go_wp2_with fail
        have HX1 := Lib.hid (show SrcI (w.heap.size + 2) ((w.alloc (.cells #[] 3)).alloc (.cells #[.int .i64 x] 3)) (.slice (some ⟨w.heap.size + 1, 0, none⟩) 1 1) [x] by have h := SrcI.lit (w.alloc (.cells #[] 3)) x; simp only [World.size_alloc] at h; exact h)
        have HX2 := Lib.hid (SrcI.lit w x)
        have HE1 := Lib.hid (show OwnI w.heap.size (w.alloc (.cells #[] 3)) (.slice (some ⟨w.heap.size, 0, none⟩) 0 0) [] from World.ownsRow_lit w #[] 0 (Nat.le_refl _) (Nat.zero_le _) rfl)
        have HE2 := Lib.hid (show OwnI w.heap.size ((w.alloc (.cells #[.int .i64 x] 3)).alloc (.cells #[] 3)) (.slice (some ⟨w.heap.size + 1, 0, none⟩) 0 0) [] by have h := World.ownsRow_lit (e := 3) (size := 1) (base := w.heap.size) (w.alloc (.cells #[.int .i64 x] 3)) #[] 0 (by simp) (Nat.zero_le _) rfl; simp only [World.size_alloc] at h; exact h)
        go_region_law (first
          | (refine step_appI rfl (.tmp 35) (.tmp 38) rfl w.heap.size _ [] rfl (by first | (exact OwnI.later HE1.out (by go_grown)) | (exact OwnI.later HE2.out (by go_grown))) w.heap.size _ (([] : List Int).take 0) rfl (HS1.out.below (B' := w.heap.size) (by go_grown) (Nat.le_refl _)) (by simp <;> omega) (by go_size) ?_; intro v1 w1 ho1 hb1 hg1; have hz1 : w.heap.size ≤ w1.heap.size := Nat.le_trans (by go_size) hb1.size; have HB1 : Below w.heap.size w w1 := Below.trans (by go_grown) hb1)
          | (refine step_appI rfl (.tmp 39) (.tmp 41) rfl w.heap.size _ ([] ++ ([] : List Int).take 0) rfl (OwnI.later ho1 (by go_grown)) _ _ [x] rfl (by first | (exact (SrcI.lit w1 x).below (B' := w1.heap.size + 1) (by go_grown) (Nat.le_refl _)) | (exact SrcI.grown (B := w.heap.size + 2) (HX1.out.below (B' := w.heap.size + 2) (by go_grown) (Nat.le_refl _)) hg1 (by go_size) (fun g ad n c e1 e2 => by cases e1; cases e2; simp)) | (exact SrcI.grown (B := w.heap.size + 1) (HX2.out.below (B' := w.heap.size + 1) (by go_grown) (Nat.le_refl _)) hg1 (by go_size) (fun g ad n c e1 e2 => by cases e1; cases e2; simp))) (by simp <;> omega) (by go_size) ?_; intro v2 w2 ho2 hb2 hg2; have hz2 : w.heap.size ≤ w2.heap.size := Nat.le_trans (by go_size) hb2.size; have HB2 : Below w.heap.size w w2 := Below.trans (by go_grown) hb2)
          | (refine step_appI rfl (.tmp 42) (.tmp 45) rfl w.heap.size _ (([] ++ ([] : List Int).take 0) ++ [x]) rfl (OwnI.later ho2 (by go_grown)) w.heap.size _ (([] : List Int).drop 0) rfl (HS2.out.below (B' := w.heap.size) (by go_grown) (Nat.le_refl _)) (by simp <;> omega) (by go_size) ?_; intro v3 w3 ho3 hb3 hg3; have HB3 : Below w.heap.size w w3 := Below.trans (by go_grown) hb3))
        all_goals
          go_wp2_with fail
          go_ret
          exact ⟨v3, rfl, by rw [HP.out]; simpa using ho3, HB3⟩
      · cases hv
        have hg : g < w.heap.size := (Array.getElem?_eq_some_iff.1 hh).1
        have hkc1 : l.length ≤ c := hn
        clear hkc
        have HS1 := Lib.hid (SrcI.row (w := w) (B := w.heap.size) (g := g) (m := l.length) (c := c) (l := l.take l.length) hg (by simp) (fun j hj => by rw [List.take_length] at *; have := HO.out.cells j hj; rwa [Nat.zero_add] at this))
        by_cases hck : c = l.length
        · subst hck
          have HS2 := Lib.hid (SrcI.row (w := w) (B := w.heap.size) (g := g) (m := 0) (c := 0) (l := l.drop l.length) hg (by simp) (fun j hj => by simp at hj))
          go_wp2_with fail
          have HX1 := Lib.hid (show SrcI (w.heap.size + 2) ((w.alloc (.cells #[] 3)).alloc (.cells #[.int .i64 x] 3)) (.slice (some ⟨w.heap.size + 1, 0, none⟩) 1 1) [x] by have h := SrcI.lit (w.alloc (.cells #[] 3)) x; simp only [World.size_alloc] at h; exact h)
          have HX2 := Lib.hid (SrcI.lit w x)
          have HE1 := Lib.hid (show OwnI w.heap.size (w.alloc (.cells #[] 3)) (.slice (some ⟨w.heap.size, 0, none⟩) 0 0) [] from World.ownsRow_lit w #[] 0 (Nat.le_refl _) (Nat.zero_le _) rfl)
          have HE2 := Lib.hid (show OwnI w.heap.size ((w.alloc (.cells #[.int .i64 x] 3)).alloc (.cells #[] 3)) (.slice (some ⟨w.heap.size + 1, 0, none⟩) 0 0) [] by have h := World.ownsRow_lit (e := 3) (size := 1) (base := w.heap.size) (w.alloc (.cells #[.int .i64 x] 3)) #[] 0 (by simp) (Nat.zero_le _) rfl; simp only [World.size_alloc] at h; exact h)
          go_region_law (first
            | (refine step_appI rfl (.tmp 35) (.tmp 38) rfl w.heap.size _ [] rfl (by first | (exact OwnI.later HE1.out (by go_grown)) | (exact OwnI.later HE2.out (by go_grown))) w.heap.size _ (l.take l.length) rfl (HS1.out.below (B' := w.heap.size) (by go_grown) (Nat.le_refl _)) (by simp <;> omega) (by go_size) ?_; intro v1 w1 ho1 hb1 hg1; have hz1 : w.heap.size ≤ w1.heap.size := Nat.le_trans (by go_size) hb1.size; have HB1 : Below w.heap.size w w1 := Below.trans (by go_grown) hb1)
            | (refine step_appI rfl (.tmp 39) (.tmp 41) rfl w.heap.size _ ([] ++ l.take l.length) rfl (OwnI.later ho1 (by go_grown)) _ _ [x] rfl (by first | (exact (SrcI.lit w1 x).below (B' := w1.heap.size + 1) (by go_grown) (Nat.le_refl _)) | (exact SrcI.grown (B := w.heap.size + 2) (HX1.out.below (B' := w.heap.size + 2) (by go_grown) (Nat.le_refl _)) hg1 (by go_size) (fun g ad n c e1 e2 => by cases e1; cases e2; simp)) | (exact SrcI.grown (B := w.heap.size + 1) (HX2.out.below (B' := w.heap.size + 1) (by go_grown) (Nat.le_refl _)) hg1 (by go_size) (fun g ad n c e1 e2 => by cases e1; cases e2; simp))) (by simp <;> omega) (by go_size) ?_; intro v2 w2 ho2 hb2 hg2; have hz2 : w.heap.size ≤ w2.heap.size := Nat.le_trans (by go_size) hb2.size; have HB2 : Below w.heap.size w w2 := Below.trans (by go_grown) hb2)
            | (refine step_appI rfl (.tmp 42) (.tmp 45) rfl w.heap.size _ (([] ++ l.take l.length) ++ [x]) rfl (OwnI.later ho2 (by go_grown)) w.heap.size _ (l.drop l.length) rfl (HS2.out.below (B' := w.heap.size) (by go_grown) (Nat.le_refl _)) (by simp <;> omega) (by go_size) ?_; intro v3 w3 ho3 hb3 hg3; have HB3 : Below w.heap.size w w3 := Below.trans (by go_grown) hb3))
          all_goals
            go_wp2_with fail
            go_ret
            exact ⟨v3, rfl, by rw [HP.out]; simpa using ho3, HB3⟩
        · have HS2 := Lib.hid (SrcI.part (w := w) (B := w.heap.size) (g := g) (off := l.length) (m := 0) (c := c - l.length) (l := l.drop l.length) hg (by simp) (fun j hj => by simp at hj))
          go_wp2_with fail
          have HX1 := Lib.hid (show SrcI (w.heap.size + 2) ((w.alloc (.cells #[] 3)).alloc (.cells #[.int .i64 x] 3)) (.slice (some ⟨w.heap.size + 1, 0, none⟩) 1 1) [x] by have h := SrcI.lit (w.alloc (.cells #[] 3)) x; simp only [World.size_alloc] at h; exact h)
          have HX2 := Lib.hid (SrcI.lit w x)
          have HE1 := Lib.hid (show OwnI w.heap.size (w.alloc (.cells #[] 3)) (.slice (some ⟨w.heap.size, 0, none⟩) 0 0) [] from World.ownsRow_lit w #[] 0 (Nat.le_refl _) (Nat.zero_le _) rfl)
          have HE2 := Lib.hid (show OwnI w.heap.size ((w.alloc (.cells #[.int .i64 x] 3)).alloc (.cells #[] 3)) (.slice (some ⟨w.heap.size + 1, 0, none⟩) 0 0) [] by have h := World.ownsRow_lit (e := 3) (size := 1) (base := w.heap.size) (w.alloc (.cells #[.int .i64 x] 3)) #[] 0 (by simp) (Nat.zero_le _) rfl; simp only [World.size_alloc] at h; exact h)
          go_region_law (first
            | (refine step_appI rfl (.tmp 35) (.tmp 38) rfl w.heap.size _ [] rfl (by first | (exact OwnI.later HE1.out (by go_grown)) | (exact OwnI.later HE2.out (by go_grown))) w.heap.size _ (l.take l.length) rfl (HS1.out.below (B' := w.heap.size) (by go_grown) (Nat.le_refl _)) (by simp <;> omega) (by go_size) ?_; intro v1 w1 ho1 hb1 hg1; have hz1 : w.heap.size ≤ w1.heap.size := Nat.le_trans (by go_size) hb1.size; have HB1 : Below w.heap.size w w1 := Below.trans (by go_grown) hb1)
            | (refine step_appI rfl (.tmp 39) (.tmp 41) rfl w.heap.size _ ([] ++ l.take l.length) rfl (OwnI.later ho1 (by go_grown)) _ _ [x] rfl (by first | (exact (SrcI.lit w1 x).below (B' := w1.heap.size + 1) (by go_grown) (Nat.le_refl _)) | (exact SrcI.grown (B := w.heap.size + 2) (HX1.out.below (B' := w.heap.size + 2) (by go_grown) (Nat.le_refl _)) hg1 (by go_size) (fun g ad n c e1 e2 => by cases e1; cases e2; simp)) | (exact SrcI.grown (B := w.heap.size + 1) (HX2.out.below (B' := w.heap.size + 1) (by go_grown) (Nat.le_refl _)) hg1 (by go_size) (fun g ad n c e1 e2 => by cases e1; cases e2; simp))) (by simp <;> omega) (by go_size) ?_; intro v2 w2 ho2 hb2 hg2; have hz2 : w.heap.size ≤ w2.heap.size := Nat.le_trans (by go_size) hb2.size; have HB2 : Below w.heap.size w w2 := Below.trans (by go_grown) hb2)
            | (refine step_appI rfl (.tmp 42) (.tmp 45) rfl w.heap.size _ (([] ++ l.take l.length) ++ [x]) rfl (OwnI.later ho2 (by go_grown)) w.heap.size _ (l.drop l.length) rfl (HS2.out.below (B' := w.heap.size) (by go_grown) (Nat.le_refl _)) (by simp <;> omega) (by go_size) ?_; intro v3 w3 ho3 hb3 hg3; have HB3 : Below w.heap.size w w3 := Below.trans (by go_grown) hb3))
          all_goals
            go_wp2_with fail
            go_ret
            exact ⟨v3, rfl, by rw [HP.out]; simpa using ho3, HB3⟩
end Go.Proofs.Ytgjebjoaemeeoaa.kit
