/-
  Chapter 7: how snapshots are written: what spec's and impl's SnapshotText return.
-/
import Derived.Test.YtibpajlfcknegaaDoorSnap
import Derived.Test.YtibpajlfcknegaaDoorS4Fmt
import Derived.Test.YtibpajlfcknegaaDoorS4Valid
import Derived.Test.YtibpajlfcknegaaDoorLater
namespace Go.Proofs.YtibpajlfcknegaaDoor.kit
open Go.ChangeShapes Go.WideShapes Go.ChangeAt Go.RowKit
set_option linter.unusedVariables false

def NOk (x y : Int) (L1 : List Int) (L2 : List Sess) : Prop := (0 ≤ x ∧ x ≤ 16) ∧ (0 ≤ y ∧ y ≤ 9972) ∧ MOk L1 L2
instance (x y : Int) (L1 : List Int) (L2 : List Sess) : Decidable (NOk x y L1 L2) := inferInstanceAs (Decidable (_ ∧ _ ∧ _))
def fmtN (x y : Int) (L1 : List Int) (L2 : List Sess) : List UInt8 := if NOk x y L1 L2 then Lib.itoa x ++ [44] ++ Lib.itoa y ++ [44] ++ fmtM L1 L2 else []
theorem fmtM_len (L1 : List Int) (L2 : List Sess) (h2 : L2.length ≤ 4194304) : (fmtM L1 L2).length ≤ 300000000 := by
  unfold fmtM
  split
  · rename_i h
    have a := fmtOs_len h L1.length
    have b := fmtXs_len h L2.length
    rw [List.take_length] at a b
    rw [List.length_append]
    omega
  · simp
set_option maxRecDepth 100000 in
theorem specGood (x y : Int) (b1 b2 : Nat) (v1 v2 : Value) (L1 : List Int) (L2 : List Sess) (w : World) (h1 : L1.length ≤ 4194304) (h2 : L2.length ≤ 4194304) (o1 : OwnI b1 w v1 L1) (o2 : OwnS b2 w v2 L2) :
    Calls Tryd.prog 55 #[.agg #[.int .i64 x, .int .i64 y, v1, v2]] w fun e w' => e = .returned (.bool (decide (NOk x y L1 L2))) ∧ Below w.heap.size w w' := by
  have hB : Below w.heap.size w (w.alloc (.cells #[.int .i64 x, .int .i64 y, v1, v2] 32)) := (Below.refl _ _).alloc (Nat.le_refl _) _
  have j := specIsValidMachine b1 b2 v1 v2 L1 L2 _ h1 h2 (o1.later hB) (o2.later hB)
  obtain ⟨a1, c1, rfl⟩ := o1.shape
  obtain ⟨a2, c2, rfl⟩ := o2.shape
  have HB := Lib.hid hB
  have Jx := Lib.hid (in_c x 0 16 (w.alloc (.cells #[.int .i64 x, .int .i64 y, .slice a1 L1.length c1, .slice a2 L2.length c2] 32)))
  have Jy := Lib.hid (in_c y 0 9972 (w.alloc (.cells #[.int .i64 x, .int .i64 y, .slice a1 L1.length c1, .slice a2 L2.length c2] 32)))
  clear o1 o2 hB
  by_cases e1 : 0 ≤ x ∧ x ≤ 16
  · rw [decide_eq_true e1] at Jx
    by_cases e2 : 0 ≤ y ∧ y ≤ 9972
    · rw [decide_eq_true e2] at Jy
      have HE := Lib.hid (show decide (NOk x y L1 L2) = decide (MOk L1 L2) by unfold NOk; simp [e1, e2])
      generalize decide (MOk L1 L2) = q at *
      clear e1 e2
      go_enter Tryd.func55, Tryd.ntmps55
      go_wp2_with fail
      refine Jx.out.mono ?_
      rintro e w1 ⟨rfl, rfl⟩
      go_wp2_with fail
      refine Jy.out.mono ?_
      rintro e w1 ⟨rfl, rfl⟩
      go_wp2_with fail
      refine j.mono ?_
      rintro e w1 ⟨rfl, hb⟩
      go_wp2_with fail
      go_ret
      exact ⟨by rw [HE.out]; rfl, HB.out.trans (hb.mono HB.out.size)⟩
    · rw [decide_eq_false e2] at Jy
      have HE := Lib.hid (show decide (NOk x y L1 L2) = false from decide_eq_false (fun h => e2 h.2.1))
      clear e1 e2 j
      go_enter Tryd.func55, Tryd.ntmps55
      go_wp2_with fail
      refine Jx.out.mono ?_
      rintro e w1 ⟨rfl, rfl⟩
      go_wp2_with fail
      refine Jy.out.mono ?_
      rintro e w1 ⟨rfl, rfl⟩
      go_wp2_with fail
      go_ret
      exact ⟨by rw [HE.out]; rfl, HB.out⟩
  · rw [decide_eq_false e1] at Jx
    have HE := Lib.hid (show decide (NOk x y L1 L2) = false from decide_eq_false (fun h => e1 h.1))
    clear e1 j Jy
    go_enter Tryd.func55, Tryd.ntmps55
    go_wp2_with fail
    refine Jx.out.mono ?_
    rintro e w1 ⟨rfl, rfl⟩
    go_wp2_with fail
    go_ret
    exact ⟨by rw [HE.out]; rfl, HB.out⟩
set_option maxRecDepth 100000 in
theorem implGood (x y : Int) (b1 b2 : Nat) (v1 v2 : Value) (L1 : List Int) (L2 : List Sess) (w : World) (h1 : L1.length ≤ 4194304) (h2 : L2.length ≤ 4194304) (o1 : OwnI b1 w v1 L1) (o2 : OwnS b2 w v2 L2) :
    Calls Tryd.prog 39 #[.agg #[.int .i64 x, .int .i64 y, v1, v2]] w fun e w' => e = .returned (.bool (decide (NOk x y L1 L2))) ∧ Below w.heap.size w w' := by
  have hB : Below w.heap.size w (w.alloc (.cells #[.int .i64 x, .int .i64 y, v1, v2] 32)) := (Below.refl _ _).alloc (Nat.le_refl _) _
  have j := implIsValidMachine b1 b2 v1 v2 L1 L2 _ h1 h2 (o1.later hB) (o2.later hB)
  obtain ⟨a1, c1, rfl⟩ := o1.shape
  obtain ⟨a2, c2, rfl⟩ := o2.shape
  have HB := Lib.hid hB
  clear o1 o2 hB
  by_cases e1 : 0 ≤ x
  · have g1 : decide (x ≥ 0) = true := decide_eq_true e1
    by_cases e2 : x ≤ 16
    · have g2 : decide (x ≤ 16) = true := decide_eq_true e2
      by_cases e3 : 0 ≤ y
      · have g3 : decide (y ≥ 0) = true := decide_eq_true e3
        by_cases e4 : y < 9973
        · have g4 : decide (y < 9973) = true := decide_eq_true e4
          have HE := Lib.hid (show decide (NOk x y L1 L2) = decide (MOk L1 L2) by
            have e5 : y ≤ 9972 := by omega
            unfold NOk; simp [e1, e2, e3, e5])
          generalize decide (MOk L1 L2) = q at *
          clear e1 e2 e3 e4
          go_enter Tryd.func39, Tryd.ntmps39
          go_wp2_with fail
          refine j.mono ?_
          rintro e w1 ⟨rfl, hb⟩
          go_wp2_with fail
          go_ret
          exact ⟨by rw [HE.out]; rfl, HB.out.trans (hb.mono HB.out.size)⟩
        · have g4 : decide (y < 9973) = false := decide_eq_false e4
          have HE := Lib.hid (show decide (NOk x y L1 L2) = false from decide_eq_false (fun h => by unfold NOk at h; omega))
          clear j
          go_enter Tryd.func39, Tryd.ntmps39
          go_wp2_with fail
          go_ret
          exact ⟨by rw [HE.out]; rfl, HB.out⟩
      · have g3 : decide (y ≥ 0) = false := decide_eq_false e3
        have HE := Lib.hid (show decide (NOk x y L1 L2) = false from decide_eq_false (fun h => by unfold NOk at h; omega))
        clear j
        go_enter Tryd.func39, Tryd.ntmps39
        go_wp2_with fail
        go_ret
        exact ⟨by rw [HE.out]; rfl, HB.out⟩
    · have g2 : decide (x ≤ 16) = false := decide_eq_false e2
      have HE := Lib.hid (show decide (NOk x y L1 L2) = false from decide_eq_false (fun h => by unfold NOk at h; omega))
      clear j
      go_enter Tryd.func39, Tryd.ntmps39
      go_wp2_with fail
      go_ret
      exact ⟨by rw [HE.out]; rfl, HB.out⟩
  · have g1 : decide (x ≥ 0) = false := decide_eq_false e1
    have HE := Lib.hid (show decide (NOk x y L1 L2) = false from decide_eq_false (fun h => by unfold NOk at h; omega))
    clear j
    go_enter Tryd.func39, Tryd.ntmps39
    go_wp2_with fail
    go_ret
    exact ⟨by rw [HE.out]; rfl, HB.out⟩
set_option maxRecDepth 100000 in
set_option maxHeartbeats 2000000 in
theorem specSnapshotText (x y : Int) (b1 b2 : Nat) (v1 v2 : Value) (L1 : List Int) (L2 : List Sess) (w : World) (h1 : L1.length ≤ 4194304) (h2 : L2.length ≤ 4194304) (o1 : OwnI b1 w v1 L1) (o2 : OwnS b2 w v2 L2) :
    Calls Tryd.prog 37 #[.agg #[.int .i64 x, .int .i64 y, v1, v2]] w fun e w' => e = .returned (.string ⟨(fmtN x y L1 L2).toArray⟩) ∧ Below w.heap.size w w' := by
  obtain ⟨W, hW⟩ : ∃ W, W = w.alloc (.cells #[.int .i64 x, .int .i64 y, v1, v2] 32) := ⟨_, rfl⟩
  have hB : Below w.heap.size w W := by rw [hW]; exact (Below.refl _ _).alloc (Nat.le_refl _) _
  have p1 := o1.later hB
  have p2 := o2.later hB
  have JG := Lib.hid (specGood x y b1 b2 v1 v2 L1 L2 W h1 h2 p1 p2)
  have k0 : W.cell? ⟨w.heap.size, 0, none⟩ = some (.int .i64 x) := by rw [hW, World.cell?_alloc_at _ _ _ _ rfl]; rfl
  have k1 : W.cell? ⟨w.heap.size, 1, none⟩ = some (.int .i64 y) := by rw [hW, World.cell?_alloc_at _ _ _ _ rfl]; rfl
  have k2 : W.cell? ⟨w.heap.size, 2, none⟩ = some v1 := by rw [hW, World.cell?_alloc_at _ _ _ _ rfl]; rfl
  have k3 : W.cell? ⟨w.heap.size, 3, none⟩ = some v2 := by rw [hW, World.cell?_alloc_at _ _ _ _ rfl]; rfl
  have hlt : w.heap.size < W.heap.size := by rw [hW]; simp
  have P1 := Lib.hid p1
  have P2 := Lib.hid p2
  obtain ⟨a1, c1, rfl⟩ := o1.shape
  obtain ⟨a2, c2, rfl⟩ := o2.shape
  have HB := Lib.hid hB
  have HW := Lib.hid hW
  clear o1 o2 hB p1 p2 hW
  by_cases hN : NOk x y L1 L2
  · rw [decide_eq_true hN] at JG
    have HF := Lib.hid (show fmtN x y L1 L2 = Lib.itoa x ++ [44] ++ Lib.itoa y ++ [44] ++ fmtM L1 L2 from if_pos hN)
    unfold NOk at hN
    have lx := itoa_le x (by omega) (by omega)
    have ly := itoa_le y (by omega) (by omega)
    have lm := fmtM_len L1 L2 h2
    go_enter Tryd.func37, Tryd.ntmps37
    go_wp2_with fail
    rw [← HW.out]
    refine JG.out.mono ?_
    rintro e w1 ⟨rfl, hb⟩
    have j1 := fun (p : LaterOf w1) => specFormatInt x p.W (by omega) (by omega)
    have j2 := fun (p : LaterOf w1) => specFormatInt y p.W (by omega) (by omega)
    have j3 := fun (p : LaterOf w1) => specFormatMachine b1 b2 _ _ L1 L2 p.W h1 h2 ((P1.out.later hb).later p.h) ((P2.out.later hb).later p.h)
    have J1 : ∀ p : LaterOf w1, Hid _ := fun p => Lib.hid (j1 p)
    have J2 : ∀ p : LaterOf w1, Hid _ := fun p => Lib.hid (j2 p)
    have J3 : ∀ p : LaterOf w1, Hid _ := fun p => Lib.hid (j3 p)
    have hlt1 := Nat.lt_of_lt_of_le hlt hb.size
    have q0 := LaterOf.cell (a := ⟨w.heap.size, 0, none⟩) hlt1 ((hb.cell (p := ⟨w.heap.size, 0, none⟩) hlt).trans k0)
    have q1 := LaterOf.cell (a := ⟨w.heap.size, 1, none⟩) hlt1 ((hb.cell (p := ⟨w.heap.size, 1, none⟩) hlt).trans k1)
    have q2 := LaterOf.cell (a := ⟨w.heap.size, 2, none⟩) hlt1 ((hb.cell (p := ⟨w.heap.size, 2, none⟩) hlt).trans k2)
    have q3 := LaterOf.cell (a := ⟨w.heap.size, 3, none⟩) hlt1 ((hb.cell (p := ⟨w.heap.size, 3, none⟩) hlt).trans k3)
    replace HB := Lib.hid (HB.out.trans (hb.mono HB.out.size))
    clear hb k0 k1 k2 k3 j1 j2 j3 JG hN HW P1 P2
    generalize fmtM L1 L2 = fm at *
    generalize Lib.itoa x = fx at *
    generalize Lib.itoa y = fy at *
    have e0 : ¬ (9223372036854775807 < fx.length + 1) := by omega
    have e1 : ¬ (9223372036854775807 < fx.length + 1 + fy.length) := by omega
    have e2 : ¬ (9223372036854775807 < fx.length + 1 + fy.length + 1) := by omega
    have e3 : ¬ (9223372036854775807 < fx.length + 1 + fy.length + 1 + fm.length) := by omega
    go_wp2_with fail
    refine wp_region_later (by kernel_rfl) (by kernel_rfl) ?_
    repeat (go_big_quiet_step (first | (with_reducible exact Calls.later_of (J1 _).out) | (with_reducible exact Calls.later_of (J2 _).out) | (with_reducible exact Calls.later_of (J3 _).out)))
    refine wpQuiet_nil ?_
    intro _ hw'
    obtain ⟨⟨wz, hwz⟩, hw''⟩ := hw'
    subst hw''
    have HZ := Lib.hid (HB.out.trans (hwz.mono HB.out.size))
    clear hwz
    go_wp2_with fail
    go_ret
    exact ⟨by rw [HF.out]; exact congrArg (fun z => Ending.returned (Value.string z)) (by apply ByteArray.ext; apply Array.ext'; simp), HZ.out⟩
  · rw [decide_eq_false hN] at JG
    have HF := Lib.hid (show fmtN x y L1 L2 = [] from if_neg hN)
    clear hN
    go_enter Tryd.func37, Tryd.ntmps37
    go_wp2_with fail
    rw [← HW.out]
    refine JG.out.mono ?_
    rintro e w1 ⟨rfl, hb⟩
    go_wp2_with fail
    go_ret
    exact ⟨by rw [HF.out]; rfl, HB.out.trans (hb.mono HB.out.size)⟩
end Go.Proofs.YtibpajlfcknegaaDoor.kit
