/-
  Chapter 4: spec's l4Copy (slow: some 6 minutes, the orders of a drawn region).
-/
import Derived.Test.YtgjebjoaemeeoaaGreatDoorS4Copy
namespace Go.Proofs.YtgjebjoaemeeoaaGreatDoor.kit
open Go.ChangeShapes Go.WideShapes Go.ChangeAt Go.RowKit
theorem OwnS.kept2 {b : Nat} {W W1 w1 : World} {u v : Value} {l : List Sess} (h : OwnS b W u l) (hg : W1.grownBy w1 v.ownBlock) (hne : ∀ g, v.ownBlock = some g → u.ownBlock = some g → False) (hb : Below W.heap.size W W1) : OwnS b w1 u l := (h.later hb).marked hg hne
theorem own_apart2 {b1 b2 : Nat} {W W1 : World} {v1 v2 : Value} {l1 : List Int} {l2 : List Sess} (h2 : OwnS b2 W1 v2 l2) (h1 : OwnI b1 W v1 l1) (hb : Below W.heap.size W W1) : ∀ g, v1.ownBlock = some g → v2.ownBlock = some g → False := own_apart (h1.later hb) h2
theorem own_apart3 {b1 b2 : Nat} {W W1 : World} {v1 v2 : Value} {l1 : List Int} {l2 : List Sess} (h1 : OwnI b1 W1 v1 l1) (h2 : OwnS b2 W v2 l2) (hb : Below W.heap.size W W1) : ∀ g, v1.ownBlock = some g → v2.ownBlock = some g → False := own_apart h1 (h2.later hb)
set_option maxRecDepth 100000 in
set_option maxHeartbeats 8000000 in
theorem l4CopyS (v1 v2 : Value) (L1 : List Int) (L2 : List Sess) (w : World) (h1 : L1.length ≤ 4194304) (h2 : L2.length ≤ 4194304) (o1 : SrcI w.heap.size w v1 L1) (o2 : SrcS w.heap.size w v2 L2) :
    Calls Tryz.prog 121 #[.agg #[v1, v2]] w fun e w' => ∃ u1 u2, e = .returned (.agg #[u1, u2]) ∧ OwnI w.heap.size w' u1 L1 ∧ OwnS w.heap.size w' u2 L2 ∧ Below w.heap.size w w' := by
  obtain ⟨y1, q1, rfl⟩ := o1.shape
  obtain ⟨y2, q2, rfl⟩ := o2.shape
  have HS1 := Lib.hid o1
  have HS2 := Lib.hid o2
  clear o1 o2
  go_enter Tryz.func121, Tryz.ntmps121
  go_wp2_with fail
  have HA := Lib.hid (show Below w.heap.size w ((w.alloc (.cells #[.slice y1 L1.length q1, .slice y2 L2.length q2] 44)).alloc (.cells #[.slice none 0 0, .slice none 0 0] 44)) from ((Below.refl _ _).alloc (Nat.le_refl _) _).alloc (by simp) _)
  have HI1 := Lib.hid (show OwnI (w.heap.size + 2) (((w.alloc (.cells #[.slice y1 L1.length q1, .slice y2 L2.length q2] 44)).alloc (.cells #[.slice none 0 0, .slice none 0 0] 44)).alloc (.cells #[] 3)) (.slice (some ⟨w.heap.size + 1 + 1, 0, none⟩) 0 0) [] by have h := ownI_new ((w.alloc (.cells #[.slice y1 L1.length q1, .slice y2 L2.length q2] 44)).alloc (.cells #[.slice none 0 0, .slice none 0 0] 44)) (w.heap.size + 2) (by simp); simpa using h)
  have HI2 := Lib.hid (show OwnI (w.heap.size + 2) ((((w.alloc (.cells #[.slice y1 L1.length q1, .slice y2 L2.length q2] 44)).alloc (.cells #[.slice none 0 0, .slice none 0 0] 44)).alloc (.cells #[] 98)).alloc (.cells #[] 3)) (.slice (some ⟨w.heap.size + 1 + 1 + 1, 0, none⟩) 0 0) [] by have h := ownI_new (((w.alloc (.cells #[.slice y1 L1.length q1, .slice y2 L2.length q2] 44)).alloc (.cells #[.slice none 0 0, .slice none 0 0] 44)).alloc (.cells #[] 98)) (w.heap.size + 2) (by simp); simpa using h)
  have HR1 := Lib.hid (show OwnS (w.heap.size + 2) (((w.alloc (.cells #[.slice y1 L1.length q1, .slice y2 L2.length q2] 44)).alloc (.cells #[.slice none 0 0, .slice none 0 0] 44)).alloc (.cells #[] 98)) (.slice (some ⟨w.heap.size + 1 + 1, 0, none⟩) 0 0) [] by have h := ownS_new ((w.alloc (.cells #[.slice y1 L1.length q1, .slice y2 L2.length q2] 44)).alloc (.cells #[.slice none 0 0, .slice none 0 0] 44)) (w.heap.size + 2) (by simp); simpa using h)
  have HR2 := Lib.hid (show OwnS (w.heap.size + 2) ((((w.alloc (.cells #[.slice y1 L1.length q1, .slice y2 L2.length q2] 44)).alloc (.cells #[.slice none 0 0, .slice none 0 0] 44)).alloc (.cells #[] 3)).alloc (.cells #[] 98)) (.slice (some ⟨w.heap.size + 1 + 1 + 1, 0, none⟩) 0 0) [] by have h := ownS_new (((w.alloc (.cells #[.slice y1 L1.length q1, .slice y2 L2.length q2] 44)).alloc (.cells #[.slice none 0 0, .slice none 0 0] 44)).alloc (.cells #[] 3)) (w.heap.size + 2) (by simp); simpa using h)
  go_region_law (first
    | (refine step_appI rfl (.tmp 3) (.tmp 5) rfl (w.heap.size + 2) _ [] rfl (by first | (exact OwnI.later HI1.out (by go_grown)) | (exact OwnI.later HI2.out (by go_grown))) w.heap.size _ L1 rfl (HS1.out.below (B' := w.heap.size) (by go_grown) (Nat.le_refl _)) (by simp <;> omega) (by go_size) ?_; intro v1 w1 ho1 hb1 hg1
       have hB1 : Below w.heap.size w w1 := Below.trans (by go_grown) (hb1.mono (by omega))
       have hz1 : w.heap.size + 2 ≤ w1.heap.size := Nat.le_trans (by go_size) hb1.size
       have z1 : w1.cell? ⟨w.heap.size, 1, none⟩ = some (.slice y2 L2.length q2) := (hb1.cell (p := ⟨w.heap.size, 1, none⟩) (by show w.heap.size < w.heap.size + 2; omega)).trans (by go_simp)
       have z2 : w1.cell? ⟨w.heap.size + 1, 0, none⟩ = some (.slice none 0 0) := (hb1.cell (p := ⟨w.heap.size + 1, 0, none⟩) (by show w.heap.size + 1 < w.heap.size + 2; omega)).trans (by go_simp)
       have z3 : w1.cell? ⟨w.heap.size + 1, 1, none⟩ = some (.slice none 0 0) := (hb1.cell (p := ⟨w.heap.size + 1, 1, none⟩) (by show w.heap.size + 1 < w.heap.size + 2; omega)).trans (by go_simp)
       have zf : ∀ o, w1.frozen? ⟨w.heap.size + 1, o, none⟩ = false := fun o => (hb1.frozen (p := ⟨w.heap.size + 1, o, none⟩) (by show w.heap.size + 1 < w.heap.size + 2; omega)).trans (by go_simp)
       have za : (w1.alloc (.cells #[] 98)).cell? ⟨w.heap.size, 1, none⟩ = some (.slice y2 L2.length q2) := (World.cell?_alloc_old w1 _ ⟨w.heap.size, 1, none⟩ (show w.heap.size ≠ w1.heap.size by omega)).trans z1
       (first
        | (refine (fun (hp : OwnS (w.heap.size + 2) w1 (.slice (some ⟨w.heap.size + 1 + 1, 0, none⟩) 0 0) []) => ?_) (OwnS.kept2 HR1.out hg1 (own_apart3 HI2.out HR1.out ?_) ?_); rotate_left; (go_grown <;> fail); (go_grown <;> fail))
        | (refine (fun (hp : OwnS (w.heap.size + 2) w1 (.slice (some ⟨w.heap.size + 1 + 1 + 1, 0, none⟩) 0 0) []) => ?_) (OwnS.kept2 HR2.out hg1 (own_apart2 HR2.out HI1.out ?_) ?_); rotate_left; (go_grown <;> fail); (go_grown <;> fail))
        | skip))
    | (refine step_appS rfl (.tmp 7) (.tmp 9) rfl (w.heap.size + 2) _ [] rfl (by first | (with_reducible exact hp) | (exact OwnS.later hp (by go_grown)) | (exact ownS_new w1 (w.heap.size + 2) hz1)) w.heap.size _ L2 rfl (HS2.out.below (B' := w.heap.size) (by first | (with_reducible exact hB1) | exact hB1.alloc hB1.size _) (Nat.le_refl _)) (by simp <;> omega) (by first | exact hz1 | (simp only [World.size_alloc]; omega)) ?_; intro v2 w2 ho2 hb2 hg2
       have hB2 : Below w.heap.size w w2 := Below.trans (by first | (with_reducible exact hB1) | exact hB1.alloc hB1.size _) (hb2.mono (by omega))
       have s0 : w2.cell? ⟨w.heap.size + 1, 0, none⟩ = some (.slice none 0 0) := (hb2.cell (p := ⟨w.heap.size + 1, 0, none⟩) (by show w.heap.size + 1 < w.heap.size + 2; omega)).trans (by first | (with_reducible exact z2) | exact (World.cell?_alloc_old w1 _ ⟨w.heap.size + 1, 0, none⟩ (show w.heap.size + 1 ≠ w1.heap.size by omega)).trans z2)
       have s1 : w2.cell? ⟨w.heap.size + 1, 1, none⟩ = some (.slice none 0 0) := (hb2.cell (p := ⟨w.heap.size + 1, 1, none⟩) (by show w.heap.size + 1 < w.heap.size + 2; omega)).trans (by first | (with_reducible exact z3) | exact (World.cell?_alloc_old w1 _ ⟨w.heap.size + 1, 1, none⟩ (show w.heap.size + 1 ≠ w1.heap.size by omega)).trans z3)
       have sf : ∀ o, w2.frozen? ⟨w.heap.size + 1, o, none⟩ = false := fun o => (hb2.frozen (p := ⟨w.heap.size + 1, o, none⟩) (by show w.heap.size + 1 < w.heap.size + 2; omega)).trans (by first | (with_reducible exact zf o) | exact ((Below.refl w1.heap.size w1).alloc (Nat.le_refl _) _).frozen (p := ⟨w.heap.size + 1, o, none⟩) (by show w.heap.size + 1 < w1.heap.size; omega) |>.trans (zf o))
       have hi2 : OwnI (w.heap.size + 2) w2 v1 ([] ++ L1) := by
         first
         | exact OwnI.marked ho1 hg2 (fun g a b => own_apart ho1 (by first | (with_reducible exact hp) | exact OwnS.later hp (by go_grown)) g b a)
         | exact OwnI.marked (OwnI.later ho1 (by go_grown)) hg2 (fun g a b => own_apart (OwnI.later ho1 (by go_grown)) (ownS_new w1 (w.heap.size + 2) hz1) g b a)
       obtain ⟨yv1, qv1, rfl⟩ := hi2.shape
       obtain ⟨yv2, qv2, rfl⟩ := ho2.shape)
    | skip)
  all_goals
    clear z1 z2 z3 zf za HI1 HI2 HR1 HR2 HS1 HS2 HA
    go_wp2_with fail
    refine bodyPost_ret (v := .agg #[.slice yv1 ([] ++ L1).length qv1, .slice yv2 ([] ++ L2).length qv2]) (by simp [results, Tryz.results121, go_sem, s0, s1]) rfl ⟨_, _, rfl, ?_, ?_, ?_⟩
    · exact ((hi2.setBelow (a := ⟨w.heap.size + 1, 0, none⟩) (by simp) _).setBelow (a := ⟨w.heap.size + 1, 1, none⟩) (by simp) _).mono (by omega)
    · exact ((ho2.setBelow (a := ⟨w.heap.size + 1, 0, none⟩) (by simp) _).setBelow (a := ⟨w.heap.size + 1, 1, none⟩) (by simp) _).mono (by omega)
    · exact (hB2.setCell (p := ⟨w.heap.size + 1, 0, none⟩) (Nat.le_succ _) _).setCell (p := ⟨w.heap.size + 1, 1, none⟩) (Nat.le_succ _) _
theorem l4Copy (b1 b2 : Nat) (v1 v2 : Value) (L1 : List Int) (L2 : List Sess) (w : World) (h1 : L1.length ≤ 4194304) (h2 : L2.length ≤ 4194304) (o1 : OwnI b1 w v1 L1) (o2 : OwnS b2 w v2 L2) :
    Calls Tryz.prog 121 #[.agg #[v1, v2]] w fun e w' => ∃ u1 u2, e = .returned (.agg #[u1, u2]) ∧ OwnI w.heap.size w' u1 L1 ∧ OwnS w.heap.size w' u2 L2 ∧ Below w.heap.size w w' := l4CopyS v1 v2 L1 L2 w h1 h2 (SrcI.own o1) (SrcS.own o2)
end Go.Proofs.YtgjebjoaemeeoaaGreatDoor.kit
