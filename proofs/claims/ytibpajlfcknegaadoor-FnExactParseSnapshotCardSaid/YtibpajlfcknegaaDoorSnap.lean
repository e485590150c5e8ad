/-
  Snapshots: a snapshot of the law's that came in; the laws' helpers that copy, compare, mark and check snapshots.
-/
import Derived.Test.YtibpajlfcknegaaDoorMach
namespace Go.Proofs.YtibpajlfcknegaaDoor.kit
open Go.ChangeShapes Go.WideShapes Go.ChangeAt Go.RowKit Go.Deep
set_option linter.unusedVariables false

set_option maxRecDepth 100000 in
theorem eqSnapshotO (x1 y1 : Int) (b1 b2 : Nat) (v1 v2 : Value) (L1 : List Int) (L2 : List Sess) (x2 y2 : Int) (b3 b4 : Nat) (v3 v4 : Value) (M1 : List Int) (M2 : List Sess) (w : World) (h1 : L1.length ≤ 4194304) (h2 : L2.length ≤ 4194304) (o1 : OwnI b1 w v1 L1) (o2 : OwnS b2 w v2 L2)
    (k1 : M1.length ≤ 4194304) (k2 : M2.length ≤ 4194304) (o3 : OwnI b3 w v3 M1) (o4 : OwnS b4 w v4 M2) :
    Calls Tryd.prog 13 #[.agg #[.int .i64 x1, .int .i64 y1, v1, v2], .agg #[.int .i64 x2, .int .i64 y2, v3, v4]] w fun e w' => e = .returned (.bool (decide (x1 = x2 ∧ y1 = y2 ∧ L1 = M1 ∧ L2 = M2))) ∧ Below w.heap.size w w' := by
  have hB : Below w.heap.size w ((w.alloc (.cells #[.int .i64 x1, .int .i64 y1, v1, v2] 32)).alloc (.cells #[.int .i64 x2, .int .i64 y2, v3, v4] 32)) := by go_grown
  have j := eqMachineO b1 b2 v1 v2 L1 L2 b3 b4 v3 v4 M1 M2 _ h1 h2 (o1.later hB) (o2.later hB) k1 k2 (o3.later hB) (o4.later hB)
  obtain ⟨a1, c1, rfl⟩ := o1.shape
  obtain ⟨a2, c2, rfl⟩ := o2.shape
  obtain ⟨a3, c3, rfl⟩ := o3.shape
  obtain ⟨a4, c4, rfl⟩ := o4.shape
  have HB := Lib.hid hB
  clear o1 o2 o3 o4 hB
  by_cases e1 : x1 = x2
  · have g1 : (x1 != x2) = false := by rw [e1]; simp
    by_cases e2 : y1 = y2
    · have g2 : (y1 != y2) = false := by rw [e2]; simp
      have HE := Lib.hid (show decide (x1 = x2 ∧ y1 = y2 ∧ L1 = M1 ∧ L2 = M2) = decide (L1 = M1 ∧ L2 = M2) by rw [e1, e2]; simp)
      generalize decide (L1 = M1 ∧ L2 = M2) = q at *
      clear e1 e2
      go_enter Tryd.func13, Tryd.ntmps13
      go_wp2_with fail
      refine j.mono ?_
      rintro e w1 ⟨rfl, hb⟩
      cases q
      · go_wp2_with fail
        go_ret
        exact ⟨by rw [HE.out]; rfl, HB.out.trans (hb.mono HB.out.size)⟩
      · go_wp2_with fail
        go_ret
        exact ⟨by rw [HE.out]; rfl, HB.out.trans (hb.mono HB.out.size)⟩
    · have g2 : (y1 != y2) = true := by rw [bne_iff_ne]; exact e2
      have HE := Lib.hid (show decide (x1 = x2 ∧ y1 = y2 ∧ L1 = M1 ∧ L2 = M2) = false from decide_eq_false (fun h => e2 h.2.1))
      clear e1 e2 j
      go_enter Tryd.func13, Tryd.ntmps13
      go_wp2_with fail
      go_ret
      exact ⟨by rw [HE.out]; rfl, HB.out⟩
  · have g1 : (x1 != x2) = true := by rw [bne_iff_ne]; exact e1
    have HE := Lib.hid (show decide (x1 = x2 ∧ y1 = y2 ∧ L1 = M1 ∧ L2 = M2) = false from decide_eq_false (fun h => e1 h.1))
    clear e1 j
    go_enter Tryd.func13, Tryd.ntmps13
    go_wp2_with fail
    go_ret
    exact ⟨by rw [HE.out]; rfl, HB.out⟩
set_option maxRecDepth 100000 in
theorem markSnapshot (x y : Int) (b1 b2 : Nat) (v1 v2 : Value) (L1 : List Int) (L2 : List Sess) (w : World) (h1 : L1.length ≤ 4194304) (h2 : L2.length ≤ 4194304) (o1 : OwnI b1 w v1 L1) (o2 : OwnS b2 w v2 L2) (k : Int) (hk : k = 1) :
    Calls Tryd.prog 14 #[.agg #[.int .i64 x, .int .i64 y, v1, v2], .int .i64 k] w fun e w' => e = .returned (.int .i64 (1 + (L1.length : Int) + 4 * (L2.length : Int))) ∧ OwnI b1 w' v1 (marks 1 L1.length) ∧ OwnS b2 w' v2 (marksS (1 + (L1.length : Int)) L2.length) ∧
      ∃ wa wb, Below w.heap.size w wa ∧ wa.grownBy wb v1.ownBlock ∧ wb.grownBy w' v2.ownBlock := by
  subst hk
  have hB : Below w.heap.size w (w.alloc (.cells #[.int .i64 x, .int .i64 y, v1, v2] 32)) := (Below.refl _ _).alloc (Nat.le_refl _) _
  have j := markMachine b1 b2 v1 v2 L1 L2 _ h1 h2 (o1.later hB) (o2.later hB) 1 rfl
  obtain ⟨a1, c1, rfl⟩ := o1.shape
  obtain ⟨a2, c2, rfl⟩ := o2.shape
  have HB := Lib.hid hB
  clear o1 o2 hB
  go_enter Tryd.func14, Tryd.ntmps14
  go_wp2_with fail
  refine j.mono ?_
  rintro e w1 ⟨rfl, ho1, ho2, wa, wb, hA, hg1, hg2⟩
  have H := Lib.hid (And.intro ho1 (And.intro ho2 (And.intro (HB.out.trans (hA.mono HB.out.size)) (And.intro hg1 hg2))))
  clear ho1 ho2 hA hg1 hg2
  go_wp2_with fail
  go_ret
  exact ⟨rfl, H.out.1, H.out.2.1, wa, wb, H.out.2.2.1, H.out.2.2.2.1, H.out.2.2.2.2⟩
set_option maxRecDepth 100000 in
theorem heldSnapshot (x y : Int) (b1 b2 : Nat) (v1 v2 : Value) (n1 n2 : Nat) (w : World) (h1 : n1 ≤ 4194304) (h2 : n2 ≤ 4194304) (o1 : OwnI b1 w v1 (marks 1 n1)) (o2 : OwnS b2 w v2 (marksS (1 + (n1 : Int)) n2)) (k : Int) (hk : k = 1) :
    Calls Tryd.prog 15 #[.agg #[.int .i64 x, .int .i64 y, v1, v2], .int .i64 k] w fun e w' => e = .returned (.int .i64 (1 + (n1 : Int) + 4 * (n2 : Int))) ∧ Below w.heap.size w w' := by
  subst hk
  have hB : Below w.heap.size w (w.alloc (.cells #[.int .i64 x, .int .i64 y, v1, v2] 32)) := (Below.refl _ _).alloc (Nat.le_refl _) _
  have j := heldMachine b1 b2 v1 v2 n1 n2 _ h1 h2 (o1.later hB) (o2.later hB) 1 rfl
  obtain ⟨a1, c1, rfl⟩ := o1.shape
  obtain ⟨a2, c2, rfl⟩ := o2.shape
  have HB := Lib.hid hB
  have g0 : decide (1 + (n1 : Int) + 4 * (n2 : Int) < 0) = false := by simp; omega
  clear o1 o2 hB
  go_enter Tryd.func15, Tryd.ntmps15
  go_wp2_with fail
  refine j.mono ?_
  rintro e w1 ⟨rfl, hb⟩
  go_wp2_with fail
  go_ret
  exact ⟨rfl, HB.out.trans (hb.mono HB.out.size)⟩
end Go.Proofs.YtibpajlfcknegaaDoor.kit
