/-
  Chapter 8: what the specification's functions on configurations return.
-/
import Derived.Test.YtgjebjoaemeeoaaS8Plain
import Derived.Test.YtgjebjoaemeeoaaC2Sets
import Derived.Test.YtgjebjoaemeeoaaConf
namespace Go.Proofs.Ytgjebjoaemeeoaa.kit
open Go.ChangeShapes Go.WideShapes Go.ChangeAt Go.RowKit
set_option linter.unusedVariables false
set_option linter.unusedSimpArgs false

theorem specEp (x : Int) (w : World) : Calls Try.prog 35 #[.int .i64 x, .int .i64 1, .int .i64 20] w fun e w' => e = .returned (.bool (inE x)) ∧ w = w' := by
  unfold inE
  by_cases h1 : 1 ≤ x
  · by_cases h2 : x ≤ 20
    · rw [decide_eq_true ⟨h1, h2⟩]; exact in_true x 1 20 w h1 h2
    · rw [decide_eq_false (by omega)]; exact in_false x 1 20 w (by omega)
  · rw [decide_eq_false (by omega)]; exact in_false x 1 20 w (by omega)
set_option maxRecDepth 100000 in
set_option maxHeartbeats 2000000 in
theorem specIsValidConfigA (x y : Int) (a1 : Option Addr) (q1 : Nat) (L1 : List Int) (a2 : Option Addr) (q2 : Nat) (L2 : List Int) (w : World) (h1 : L1.length ≤ 1048576) (h2 : L2.length ≤ 1048576) (ha1 : At w a1 L1) (ha2 : At w a2 L2) :
    Calls Try.prog 38 #[.agg #[.int .i64 x, .int .i64 y, .slice a1 L1.length q1, .slice a2 L2.length q2]] w fun e w' => e = .returned (.bool (cfgOk x y L1 L2)) ∧ Below w.heap.size w w' := by
  obtain ⟨W, hW⟩ : ∃ W, W = w.alloc (.cells #[.int .i64 x, .int .i64 y, .slice a1 L1.length q1, .slice a2 L2.length q2] 26) := ⟨_, rfl⟩
  have hB : Below w.heap.size w W := by rw [hW]; exact (Below.refl _ _).alloc (Nat.le_refl _) _
  have HC := Lib.hid (show BoxC W w.heap.size 26 #[.int .i64 x, .int .i64 y, .slice a1 L1.length q1, .slice a2 L2.length q2] by rw [hW]; exact BoxC.new _ _ _)
  have HB := Lib.hid hB
  have HW := Lib.hid hW
  have HP := Lib.hid (cfgOk_parts x y L1 L2)
  have j0 := specEp x W
  have J1 := Lib.hid (specAre_any a1 q1 L1 W (by omega) (ha1.later hB))
  have J2 := Lib.hid (fun W' (h : Below w.heap.size w W') => specAre_any a2 q2 L2 W' (by omega) (ha2.later h))
  have J3 := Lib.hid (fun W' (h : Below w.heap.size w W') => specHas_any a1 q1 L1 y W' (by omega) (ha1.later h))
  have J4 := Lib.hid (fun W' (h : Below w.heap.size w W') => specCommon_any a1 a2 q1 q2 L1 L2 W' h1 h2 (ha1.later h) (ha2.later h))
  generalize inE x = p at *
  have J0 := Lib.hid j0
  clear j0 hB hW ha1 ha2
  go_enter Try.func38, Try.ntmps38
  go_wp2_with fail
  rw [← HW.out]
  have x0 := HC.out.c 0 rfl
  have x1 := HC.out.c 1 rfl
  have x2 := HC.out.c 2 rfl
  have x3 := HC.out.c 3 rfl
  clear HW
  refine J0.out.mono ?_
  rintro e w1 ⟨rfl, rfl⟩
  cases p with
  | false =>
    rw [Bool.false_and] at HP
    clear J0 J1 J2 J3 J4
    go_wp2_with fail
    go_ret
    exact ⟨by rw [HP.out]; rfl, HB.out⟩
  | true =>
    rw [Bool.true_and] at HP
    go_wp2_with fail
    refine J1.out.mono ?_
    rintro e w1 ⟨rfl, hd⟩
    replace HB := Lib.hid (HB.out.trans (hd.below w.heap.size))
    replace x0 := hd.cell x0
    replace x1 := hd.cell x1
    replace x2 := hd.cell x2
    replace x3 := hd.cell x3
    clear hd J0 J1
    cases e1 : are L1 with
    | false =>
      rw [e1, Bool.false_and] at HP
      clear e1 J2 J3 J4
      go_wp2_with fail
      go_ret
      exact ⟨by rw [HP.out]; rfl, HB.out⟩
    | true =>
      rw [e1, Bool.true_and] at HP
      clear e1
      go_wp2_with fail
      refine (J2.out _ HB.out).mono ?_
      rintro e w2 ⟨rfl, hd⟩
      replace HB := Lib.hid (HB.out.trans (hd.below w.heap.size))
      replace x0 := hd.cell x0
      replace x1 := hd.cell x1
      replace x2 := hd.cell x2
      replace x3 := hd.cell x3
      clear hd J2
      cases e2 : are L2 with
      | false =>
        rw [e2, Bool.false_and] at HP
        clear e2 J3 J4
        go_wp2_with fail
        go_ret
        exact ⟨by rw [HP.out]; rfl, HB.out⟩
      | true =>
        rw [e2, Bool.true_and] at HP
        clear e2
        go_wp2_with fail
        have j3 := J3.out _ HB.out
        generalize decide (y ∈ L1) = r at *
        refine j3.mono ?_
        rintro e w3 ⟨rfl, rfl⟩
        clear j3 J3
        cases r with
        | false =>
          rw [Bool.false_and] at HP
          clear J4
          go_wp2_with fail
          go_ret
          exact ⟨by rw [HP.out]; rfl, HB.out⟩
        | true =>
          rw [Bool.true_and] at HP
          go_wp2_with fail
          refine (J4.out _ HB.out).mono ?_
          rintro e w3 ⟨v, rfl, ho, hb⟩
          obtain ⟨yv, qv, rfl⟩ := ho.shape
          replace HB := Lib.hid (HB.out.trans (hb.mono HB.out.size))
          rw [show puts [] (L1.filter fun x => decide (x ∈ L2)) = common L1 L2 from rfl]
          have hg : (((common L1 L2).length : Int) == 0) = decide ((common L1 L2).length = 0) := by
            rw [Bool.eq_iff_iff, beq_iff_eq, decide_eq_true_iff]; omega
          generalize decide ((common L1 L2).length = 0) = s at *
          generalize common L1 L2 = cc at *
          clear ho hb J4 x0 x1 x2 x3
          go_wp2_with fail
          go_ret
          exact ⟨by rw [HP.out]; rfl, HB.out⟩
theorem specIsValidConfig (x y : Int) (b1 b2 : Nat) (v1 v2 : Value) (L1 L2 : List Int) (w : World) (h1 : L1.length ≤ 1048576) (h2 : L2.length ≤ 1048576) (o1 : OwnI b1 w v1 L1) (o2 : OwnI b2 w v2 L2) :
    Calls Try.prog 38 #[.agg #[.int .i64 x, .int .i64 y, v1, v2]] w fun e w' => e = .returned (.bool (cfgOk x y L1 L2)) ∧ Below w.heap.size w w' := by
  obtain ⟨a1, c1, rfl, _, _, t1, _⟩ := o1.form
  obtain ⟨a2, c2, rfl, _, _, t2, _⟩ := o2.form
  exact specIsValidConfigA x y a1 c1 L1 a2 c2 L2 w h1 h2 t1 t2
end Go.Proofs.Ytgjebjoaemeeoaa.kit
