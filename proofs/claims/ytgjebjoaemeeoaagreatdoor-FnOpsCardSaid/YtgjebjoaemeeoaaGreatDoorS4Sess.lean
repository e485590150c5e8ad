/-
  Chapter 4: what spec's and impl's SessionOf return.
-/
import Derived.Test.YtgjebjoaemeeoaaGreatDoorS4Plain
import Derived.Handy
namespace Go.Proofs.YtgjebjoaemeeoaaGreatDoor.kit
open Go.ChangeShapes Go.WideShapes Go.ChangeAt Go.RowKit
set_option linter.unusedVariables false

theorem find_hit (l : List Sess) (c : Int) (k : Nat) (hk : k < l.length) (hb : ∀ j, j < k → (sg l j).1 ≠ c) (h : (sg l k).1 = c) : findS l c = some (sg l k) := by
  unfold findS
  induction l generalizing k with
  | nil => simp at hk
  | cons x l ih =>
    cases k with
    | zero =>
      have hx : sg (x :: l) 0 = x := rfl
      rw [hx] at h ⊢
      simp [h]
    | succ k =>
      have h0 : x.1 ≠ c := hb 0 (by omega)
      rw [List.find?_cons_of_neg (by simpa using h0)]
      exact ih k (by simpa using hk) (fun j hj => hb (j + 1) (by omega)) h
theorem find_none (l : List Sess) (c : Int) (hb : ∀ j, j < l.length → (sg l j).1 ≠ c) : findS l c = none := by
  unfold findS
  rw [List.find?_eq_none]
  intro x hx
  obtain ⟨j, hj, rfl⟩ := List.mem_iff_getElem.1 hx
  have := hb j hj
  rw [sg_eq hj] at this
  simpa using this
set_option maxRecDepth 100000 in
set_option maxHeartbeats 4000000 in
theorem specSessionOfA (a1 : Option Addr) (c1 : Nat) (L1 : List Int) (a2 : Option Addr) (c2 : Nat) (L2 : List Sess) (c : Int) (w : World) (h1 : L1.length ≤ 4194304) (h2 : L2.length ≤ 4194304) (ha2 : AtS w a2 L2) :
    Calls Tryz.prog 122 #[.agg #[.slice a1 L1.length c1, .slice a2 L2.length c2], .int .i64 c] w fun e w' => e = .returned (.tuple #[sessV (sessOf L2 c), .bool (hasSess L2 c)]) ∧ Below w.heap.size w w' := by
  have HA2 := Lib.hid ha2
  clear ha2
  obtain ⟨WB, hWB⟩ : ∃ W, W = (w.alloc (.cells #[.slice a1 L1.length c1, .slice a2 L2.length c2] 44)).alloc (.cells #[.int .i64 0, .int .i64 0, .bool false, .int .i64 0] 98) := ⟨_, rfl⟩
  have x1 : WB.cell? ⟨w.heap.size, 1, none⟩ = some (.slice a2 L2.length c2) := by rw [hWB]; go_simp
  have r0 : WB.cell? ⟨w.heap.size + 1, 0, none⟩ = some (.int .i64 0) := by rw [hWB]; go_simp
  have r1 : WB.cell? ⟨w.heap.size + 1, 1, none⟩ = some (.int .i64 0) := by rw [hWB]; go_simp
  have r2 : WB.cell? ⟨w.heap.size + 1, 2, none⟩ = some (.bool false) := by rw [hWB]; go_simp
  have r3 : WB.cell? ⟨w.heap.size + 1, 3, none⟩ = some (.int .i64 0) := by rw [hWB]; go_simp
  have fr : ∀ o, WB.frozen? ⟨w.heap.size + 1, o, none⟩ = false := fun o => by rw [hWB]; go_simp
  have HB := Lib.hid (show Below w.heap.size w WB by rw [hWB]; exact ((Below.refl _ _).alloc (Nat.le_refl _) _).alloc (by simp) _)
  have hlt : w.heap.size < WB.heap.size := by rw [hWB]; simp; omega
  have HW := Lib.hid hWB
  clear hWB
  go_enter Tryz.func122, Tryz.ntmps122
  go_wp2_with fail
  rw [← HW.out]
  go_loop [6] (fun i => ∃ k : Nat, k ≤ L2.length ∧ i = .int .i64 k ∧ Hid (∀ j, j < k → (sg L2 j).1 ≠ c)) (fun i => L2.length - (intOf i).toNat)
  case atStart => exact ⟨0, Nat.zero_le _, rfl, Lib.hid (fun j h => by omega)⟩
  case round =>
    obtain ⟨k, hk, rfl, HE⟩ := hrel
    by_cases hlt2 : k < L2.length
    · obtain ⟨g, o, rfl, hg, hc⟩ := HA2.out k hlt2
      obtain ⟨c0, c1', c2', c3⟩ := hc.below HB.out hg
      clear hc
      by_cases he : (sg L2 k).1 = c
      · have HF := Lib.hid (find_hit L2 c k hlt2 HE.out he)
        have g1 : ((sg L2 k).1 == c) = true := by rw [beq_iff_eq]; exact he
        have HS := Lib.hid (show sessOf L2 c = sg L2 k by unfold sessOf; rw [HF.out]; rfl)
        have HH := Lib.hid (show hasSess L2 c = true by unfold hasSess; rw [HF.out]; rfl)
        clear he
        go_wp2_with fail
        refine bodyPost_ret (v := .tuple #[sessV (sg L2 k), .bool true]) (by simp [results, Tryz.results122, go_sem, r0, r1, r2, r3]) rfl ⟨by rw [HS.out, HH.out], ?_⟩
        exact (((HB.out.setCell (p := ⟨w.heap.size + 1, 0, none⟩) (Nat.le_succ _) _).setCell (p := ⟨w.heap.size + 1, 1, none⟩) (Nat.le_succ _) _).setCell (p := ⟨w.heap.size + 1, 2, none⟩) (Nat.le_succ _) _).setCell (p := ⟨w.heap.size + 1, 3, none⟩) (Nat.le_succ _) _
      · have HE2 := Lib.hid (show ∀ j, j < k + 1 → (sg L2 j).1 ≠ c from fun j hj => by
          by_cases e : j = k
          · rw [e]; exact he
          · exact HE.out j (by omega))
        have g1 : ((sg L2 k).1 == c) = false := by rw [beq_eq_false_iff_ne]; exact he
        clear he
        go_wp2_with fail
        go_round
        case rel => exact ⟨k + 1, by omega, by go_num, HE2⟩
        case measure => simp [intOf]; omega
    · obtain rfl : k = L2.length := by omega
      have HF := Lib.hid (find_none L2 c HE.out)
      have HS := Lib.hid (show sessOf L2 c = z0 by unfold sessOf; rw [HF.out]; rfl)
      have HH := Lib.hid (show hasSess L2 c = false by unfold hasSess; rw [HF.out]; rfl)
      go_wp2_with fail
      refine bodyPost_ret (v := .tuple #[sessV z0, .bool false]) (by simp [results, Tryz.results122, go_sem, r0, r1, r2, r3, z0]) rfl ⟨by rw [HS.out, HH.out], ?_⟩
      exact (((HB.out.setCell (p := ⟨w.heap.size + 1, 0, none⟩) (Nat.le_succ _) _).setCell (p := ⟨w.heap.size + 1, 1, none⟩) (Nat.le_succ _) _).setCell (p := ⟨w.heap.size + 1, 2, none⟩) (Nat.le_succ _) _).setCell (p := ⟨w.heap.size + 1, 3, none⟩) (Nat.le_succ _) _
theorem specSessionOf (b1 b2 : Nat) (v1 v2 : Value) (L1 : List Int) (L2 : List Sess) (c : Int) (w : World) (h1 : L1.length ≤ 4194304) (h2 : L2.length ≤ 4194304) (o1 : OwnI b1 w v1 L1) (o2 : OwnS b2 w v2 L2) :
    Calls Tryz.prog 122 #[.agg #[v1, v2], .int .i64 c] w fun e w' => e = .returned (.tuple #[sessV (sessOf L2 c), .bool (hasSess L2 c)]) ∧ Below w.heap.size w w' := by
  obtain ⟨a1, c1, rfl, _, _, t1, _⟩ := o1.form
  obtain ⟨a2, c2, rfl, _, _, t2, _⟩ := o2.form
  exact specSessionOfA a1 c1 L1 a2 c2 L2 c w h1 h2 t2
end Go.Proofs.YtgjebjoaemeeoaaGreatDoor.kit
