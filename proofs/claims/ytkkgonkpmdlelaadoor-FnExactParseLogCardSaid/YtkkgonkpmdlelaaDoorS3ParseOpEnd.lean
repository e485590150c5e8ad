/-
  Chapter 3: what the program's ParseOp returns: the walks of S3ParseOp put together.
-/
import Derived.Test.YtkkgonkpmdlelaaDoorS3ParseOp
namespace Go.Proofs.YtkkgonkpmdlelaaDoor.kit
open Go.ChangeShapes Go.WideShapes Go.ChangeAt Go.RowKit
set_option linter.unusedVariables false
set_option linter.unusedSimpArgs false

theorem split_mem (x : UInt8) : ∀ (k : Nat) (l p : List UInt8), p ∈ Lib.splitK [x] 0 k l → p.length ≤ l.length
  | 0, l, p, h => by
    rw [show Lib.splitK [x] 0 0 l = [l] from rfl, List.mem_singleton] at h
    rw [h]; exact Nat.le_refl _
  | k + 1, l, p, h => by
    rcases first_x x l with hf | ⟨a, r, hf, rfl⟩
    · rw [split_none hf, List.mem_singleton] at h
      rw [h]; exact Nat.le_refl _
    · rw [split_app hf] at h
      rcases List.mem_cons.1 h with rfl | h
      · simp
      · have := split_mem x k r p h
        simp; omega
theorem implParseOp (s : ByteArray) (w : World) (hs : s.size ≤ 1048576) (hM : Mx w) (hT : Tab w) :
    Calls Tryd.prog 88 #[.string s] w fun e w' => e = .returned (.tuple #[opV (parO s.data.toList).1 (parO s.data.toList).2.1 (parO s.data.toList).2.2.1 (parO s.data.toList).2.2.2.1 (parO s.data.toList).2.2.2.2.1 (parO s.data.toList).2.2.2.2.2, .bool (parOok s.data.toList)]) ∧ Below w.heap.size w w' := by
  have hl : s.data.toList.length = s.size := by rw [Array.length_toList]; rfl
  have hsz : ∀ p ∈ wordsL s.data.toList, p.length ≤ s.size := fun p hp => by rw [← hl]; exact split_mem 32 _ _ p hp
  have hlen := words_len s.data.toList
  have hno : ∀ {C : Prop}, C → (C → ¬ (2 ≤ (wordsL s.data.toList).length ∧ allPar (originL s.data.toList) = true ∧ allPar ((wordsL s.data.toList).drop 2) = true ∧ kindL s.data.toList ≠ 0 ∧ okT (tupL s.data.toList) = true)) →
      (Calls Tryd.prog 88 #[.string s] w fun e w' => e = .returned (.tuple #[opV 0 0 0 0 0 0, .bool false]) ∧ Below w.heap.size w w') →
      Calls Tryd.prog 88 #[.string s] w fun e w' => e = .returned (.tuple #[opV (parO s.data.toList).1 (parO s.data.toList).2.1 (parO s.data.toList).2.2.1 (parO s.data.toList).2.2.2.1 (parO s.data.toList).2.2.2.2.1 (parO s.data.toList).2.2.2.2.2, .bool (parOok s.data.toList)]) ∧ Below w.heap.size w w' := fun c h hc => by
    obtain ⟨h1, h2⟩ := impl_no (h c)
    rw [h1, h2]; exact hc
  have hyes : allPar (originL s.data.toList) = true → allPar ((wordsL s.data.toList).drop 2) = true → kindL s.data.toList ≠ 0 → okT (tupL s.data.toList) = true →
      (Calls Tryd.prog 88 #[.string s] w fun e w' => e = .returned (.tuple #[opV (tupL s.data.toList).1 (tupL s.data.toList).2.1 (tupL s.data.toList).2.2.1 (tupL s.data.toList).2.2.2.1 (tupL s.data.toList).2.2.2.2.1 (tupL s.data.toList).2.2.2.2.2, .bool true]) ∧ Below w.heap.size w w') →
      Calls Tryd.prog 88 #[.string s] w fun e w' => e = .returned (.tuple #[opV (parO s.data.toList).1 (parO s.data.toList).2.1 (parO s.data.toList).2.2.1 (parO s.data.toList).2.2.2.1 (parO s.data.toList).2.2.2.2.1 (parO s.data.toList).2.2.2.2.2, .bool (parOok s.data.toList)]) ∧ Below w.heap.size w w' := fun h1 h2 h3 h4 hc => by
    obtain ⟨e1, e2⟩ := impl_yes h1 h2 h3 h4
    rw [e1, e2]; exact hc
  generalize hws : wordsL s.data.toList = ws at *
  have hor : originL s.data.toList = [(Lib.cut (ws.getD 0 []) [46]).1, (Lib.cut (ws.getD 0 []) [46]).2.1] := by unfold originL; rw [hws]
  match ws, hlen with
  | [p0], _ => exact hno trivial (fun _ h => by have := h.1; simp at this) (implParse_short s w hs (Lib.hid (by rw [hws]; rfl)) hM hT)
  | [p0, p1], _ =>
    have hor : originL s.data.toList = [(Lib.cut p0 [46]).1, (Lib.cut p0 [46]).2.1] := hor
    by_cases hb : (allPar (originL s.data.toList) && allPar []) = true
    · rw [Bool.and_eq_true] at hb
      obtain ⟨hb1, hb2⟩ := hb
      have hb1' := hb1
      rw [hor] at hb1'
      refine hno trivial (fun _ h => ?_) (implParse_none2 s w p0 p1 hs (Lib.hid (by rw [hws]; rfl)) (Lib.hid (by rw [hws]; rfl)) (hsz p0 (by simp)) (Lib.hid (by rw [hws]; rfl)) (hsz p1 (by simp)) hM hT (Lib.hid hb1') (Lib.hid hb2))
      apply h.2.2.2.1
      unfold kindL
      rw [hws]; simp
    · refine hno hb (fun c h => c ?_) (implParse_bad2 s w p0 p1 hs (Lib.hid (by rw [hws]; rfl)) (Lib.hid (by rw [hws]; rfl)) (hsz p0 (by simp)) (Lib.hid (by rw [hws]; rfl)) (hsz p1 (by simp)) hM hT _ _ (Lib.hid rfl) (Lib.hid rfl) ?_)
      · rw [Bool.and_eq_true]; exact ⟨h.2.1, h.2.2.1⟩
      · rw [← hor]; simpa using hb
  | [p0, p1, p2], _ =>
    have hor : originL s.data.toList = [(Lib.cut p0 [46]).1, (Lib.cut p0 [46]).2.1] := hor
    by_cases hb : (allPar (originL s.data.toList) && allPar [p2]) = true
    · rw [Bool.and_eq_true] at hb
      obtain ⟨hb1, hb2⟩ := hb
      have hb1' := hb1
      rw [hor] at hb1'
      refine hno trivial (fun _ h => ?_) (implParse_none3 s w p0 p1 p2 hs (Lib.hid (by rw [hws]; rfl)) (Lib.hid (by rw [hws]; rfl)) (hsz p0 (by simp)) (Lib.hid (by rw [hws]; rfl)) (hsz p1 (by simp)) (Lib.hid (by rw [hws]; rfl)) (hsz p2 (by simp)) hM hT (Lib.hid hb1') (Lib.hid hb2))
      apply h.2.2.2.1
      unfold kindL
      rw [hws]; simp
    · refine hno hb (fun c h => c ?_) (implParse_bad3 s w p0 p1 p2 hs (Lib.hid (by rw [hws]; rfl)) (Lib.hid (by rw [hws]; rfl)) (hsz p0 (by simp)) (Lib.hid (by rw [hws]; rfl)) (hsz p1 (by simp)) (Lib.hid (by rw [hws]; rfl)) (hsz p2 (by simp)) hM hT _ _ (Lib.hid rfl) (Lib.hid rfl) ?_)
      · rw [Bool.and_eq_true]; exact ⟨h.2.1, h.2.2.1⟩
      · rw [← hor]; simpa using hb
  | [p0, p1, p2, p3], _ =>
    have hor : originL s.data.toList = [(Lib.cut p0 [46]).1, (Lib.cut p0 [46]).2.1] := hor
    by_cases hb : (allPar (originL s.data.toList) && allPar [p2, p3]) = true
    · rw [Bool.and_eq_true] at hb
      obtain ⟨hb1, hb2⟩ := hb
      have hb1' := hb1
      rw [hor] at hb1'
      by_cases hw : p1 = wW
      · have hkd : kindL s.data.toList = 1 := by unfold kindL; rw [hws]; simp [hw, wW, wS]
        have htp : tupL s.data.toList = (parN (Lib.cut p0 [46]).1, parN (Lib.cut p0 [46]).2.1, 1, parN p2, 0, parN p3) := by unfold tupL; rw [hkd, hor, hws]; rfl
        by_cases hok : okT (tupL s.data.toList) = true
        · refine hyes hb1 hb2 (by rw [hkd]; omega) hok ?_
          rw [htp] at hok ⊢
          exact implParse_write_true s w p0 p1 p2 p3 hs (Lib.hid (by rw [hws]; rfl)) (Lib.hid (by rw [hws]; rfl)) (hsz p0 (by simp)) (Lib.hid (by rw [hws]; rfl)) (hsz p1 (by simp)) (Lib.hid (by rw [hws]; rfl)) (hsz p2 (by simp)) (Lib.hid (by rw [hws]; rfl)) (hsz p3 (by simp)) hM hT _ _ _ _ (Lib.hid hb1') (Lib.hid hb2) (Lib.hid rfl) (Lib.hid rfl) (Lib.hid rfl) (Lib.hid rfl) (Lib.hid hw) (Lib.hid hok)
        · refine hno hok (fun c h => c h.2.2.2.2) ?_
          rw [htp] at hok
          exact implParse_write_false s w p0 p1 p2 p3 hs (Lib.hid (by rw [hws]; rfl)) (Lib.hid (by rw [hws]; rfl)) (hsz p0 (by simp)) (Lib.hid (by rw [hws]; rfl)) (hsz p1 (by simp)) (Lib.hid (by rw [hws]; rfl)) (hsz p2 (by simp)) (Lib.hid (by rw [hws]; rfl)) (hsz p3 (by simp)) hM hT _ _ _ _ (Lib.hid hb1') (Lib.hid hb2) (Lib.hid rfl) (Lib.hid rfl) (Lib.hid rfl) (Lib.hid rfl) (Lib.hid hw) (Lib.hid (Bool.not_eq_true _ ▸ hok))
      · refine hno trivial (fun _ h => ?_) (implParse_none4 s w p0 p1 p2 p3 hs (Lib.hid (by rw [hws]; rfl)) (Lib.hid (by rw [hws]; rfl)) (hsz p0 (by simp)) (Lib.hid (by rw [hws]; rfl)) (hsz p1 (by simp)) (Lib.hid (by rw [hws]; rfl)) (hsz p2 (by simp)) (Lib.hid (by rw [hws]; rfl)) (hsz p3 (by simp)) hM hT (Lib.hid hb1') (Lib.hid hb2) (Lib.hid hw))
        apply h.2.2.2.1
        unfold kindL
        rw [hws]; simp [hw]
    · refine hno hb (fun c h => c ?_) (implParse_bad4 s w p0 p1 p2 p3 hs (Lib.hid (by rw [hws]; rfl)) (Lib.hid (by rw [hws]; rfl)) (hsz p0 (by simp)) (Lib.hid (by rw [hws]; rfl)) (hsz p1 (by simp)) (Lib.hid (by rw [hws]; rfl)) (hsz p2 (by simp)) (Lib.hid (by rw [hws]; rfl)) (hsz p3 (by simp)) hM hT _ _ (Lib.hid rfl) (Lib.hid rfl) ?_)
      · rw [Bool.and_eq_true]; exact ⟨h.2.1, h.2.2.1⟩
      · rw [← hor]; simpa using hb
  | [p0, p1, p2, p3, p4], _ =>
    have hor : originL s.data.toList = [(Lib.cut p0 [46]).1, (Lib.cut p0 [46]).2.1] := hor
    by_cases hb : (allPar (originL s.data.toList) && allPar [p2, p3, p4]) = true
    · rw [Bool.and_eq_true] at hb
      obtain ⟨hb1, hb2⟩ := hb
      have hb1' := hb1
      rw [hor] at hb1'
      by_cases hw : p1 = wS
      · have hkd : kindL s.data.toList = 2 := by unfold kindL; rw [hws]; simp [hw, wW, wS]
        have htp : tupL s.data.toList = (parN (Lib.cut p0 [46]).1, parN (Lib.cut p0 [46]).2.1, 2, parN p2, parN p3, parN p4) := by unfold tupL; rw [hkd, hor, hws]; rfl
        by_cases hok : okT (tupL s.data.toList) = true
        · refine hyes hb1 hb2 (by rw [hkd]; omega) hok ?_
          rw [htp] at hok ⊢
          exact implParse_swap_true s w p0 p1 p2 p3 p4 hs (Lib.hid (by rw [hws]; rfl)) (Lib.hid (by rw [hws]; rfl)) (hsz p0 (by simp)) (Lib.hid (by rw [hws]; rfl)) (hsz p1 (by simp)) (Lib.hid (by rw [hws]; rfl)) (hsz p2 (by simp)) (Lib.hid (by rw [hws]; rfl)) (hsz p3 (by simp)) (Lib.hid (by rw [hws]; rfl)) (hsz p4 (by simp)) hM hT _ _ _ _ _ (Lib.hid hb1') (Lib.hid hb2) (Lib.hid rfl) (Lib.hid rfl) (Lib.hid rfl) (Lib.hid rfl) (Lib.hid rfl) (Lib.hid hw) (Lib.hid hok)
        · refine hno hok (fun c h => c h.2.2.2.2) ?_
          rw [htp] at hok
          exact implParse_swap_false s w p0 p1 p2 p3 p4 hs (Lib.hid (by rw [hws]; rfl)) (Lib.hid (by rw [hws]; rfl)) (hsz p0 (by simp)) (Lib.hid (by rw [hws]; rfl)) (hsz p1 (by simp)) (Lib.hid (by rw [hws]; rfl)) (hsz p2 (by simp)) (Lib.hid (by rw [hws]; rfl)) (hsz p3 (by simp)) (Lib.hid (by rw [hws]; rfl)) (hsz p4 (by simp)) hM hT _ _ _ _ _ (Lib.hid hb1') (Lib.hid hb2) (Lib.hid rfl) (Lib.hid rfl) (Lib.hid rfl) (Lib.hid rfl) (Lib.hid rfl) (Lib.hid hw) (Lib.hid (Bool.not_eq_true _ ▸ hok))
      · refine hno trivial (fun _ h => ?_) (implParse_none5 s w p0 p1 p2 p3 p4 hs (Lib.hid (by rw [hws]; rfl)) (Lib.hid (by rw [hws]; rfl)) (hsz p0 (by simp)) (Lib.hid (by rw [hws]; rfl)) (hsz p1 (by simp)) (Lib.hid (by rw [hws]; rfl)) (hsz p2 (by simp)) (Lib.hid (by rw [hws]; rfl)) (hsz p3 (by simp)) (Lib.hid (by rw [hws]; rfl)) (hsz p4 (by simp)) hM hT (Lib.hid hb1') (Lib.hid hb2) (Lib.hid hw))
        apply h.2.2.2.1
        unfold kindL
        rw [hws]; simp [hw]
    · refine hno hb (fun c h => c ?_) (implParse_bad5 s w p0 p1 p2 p3 p4 hs (Lib.hid (by rw [hws]; rfl)) (Lib.hid (by rw [hws]; rfl)) (hsz p0 (by simp)) (Lib.hid (by rw [hws]; rfl)) (hsz p1 (by simp)) (Lib.hid (by rw [hws]; rfl)) (hsz p2 (by simp)) (Lib.hid (by rw [hws]; rfl)) (hsz p3 (by simp)) (Lib.hid (by rw [hws]; rfl)) (hsz p4 (by simp)) hM hT _ _ (Lib.hid rfl) (Lib.hid rfl) ?_)
      · rw [Bool.and_eq_true]; exact ⟨h.2.1, h.2.2.1⟩
      · rw [← hor]; simpa using hb
end Go.Proofs.YtkkgonkpmdlelaaDoor.kit
