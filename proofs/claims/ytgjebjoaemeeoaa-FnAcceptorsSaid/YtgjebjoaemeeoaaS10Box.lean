/-
  Chapter 10: the program's ballot box: its methods, each under its mutex.
-/
import Derived.Test.YtgjebjoaemeeoaaS10CopyI
import Derived.Test.YtgjebjoaemeeoaaS10Valid
import Derived.Test.YtgjebjoaemeeoaaLocks
import Derived.Conc.MuLone
namespace Go.Proofs.Ytgjebjoaemeeoaa.kit
open Go.ChangeShapes Go.WideShapes Go.ChangeAt Go.RowKit
open Go.MuLone
set_option linter.unusedVariables false
set_option linter.unusedSimpArgs false

theorem implBal (n : Int) (w : World) : Calls Try.prog 53 #[.int .i64 n] w fun e w' => e = .returned (.bool (inBal n)) ∧ w = w' := by
  by_cases h1 : 1 ≤ n
  · have g1 : decide (1 ≤ n) = true := decide_eq_true h1
    by_cases h2 : n ≤ 99
    · have g2 : decide (n ≤ 99) = true := decide_eq_true h2
      have E := Lib.hid (show inBal n = true from decide_eq_true ⟨h1, h2⟩)
      clear h1 h2
      go_enter Try.func53, Try.ntmps53
      go_wp2_with fail
      go_ret
      exact ⟨by rw [E.out]; rfl, rfl⟩
    · have g2 : decide (n ≤ 99) = false := decide_eq_false h2
      have E := Lib.hid (show inBal n = false from decide_eq_false (by omega))
      clear h1 h2
      go_enter Try.func53, Try.ntmps53
      go_wp2_with fail
      go_ret
      exact ⟨by rw [E.out]; rfl, rfl⟩
  · have g1 : decide (1 ≤ n) = false := decide_eq_false h1
    have E := Lib.hid (show inBal n = false from decide_eq_false (by omega))
    clear h1
    go_enter Try.func53, Try.ntmps53
    go_wp2_with fail
    go_ret
    exact ⟨by rw [E.out]; rfl, rfl⟩
/-- stores into a block that was not there -/
theorem grown_behind {a w : World} {b : Nat} {r : Option Nat} (h : a.grownBy w r) (hb : a.heap.size ≤ b) (j : Nat) (u : Value) : a.grownBy (w.setCell ⟨b, j, none⟩ u) r :=
  ⟨h.os, h.tape, h.output, by simpa [World.setCell] using h.size, fun k hk hne => (Below.heap_setCell w ⟨b, j, none⟩ u k (fun e => by simp at e; omega)).trans (h.block k hk hne)⟩
theorem grown_behind6 {a w : World} {r : Option Nat} (h : a.grownBy w r) (x0 x1 x2 x3 x4 x5 : Value) :
    a.grownBy ((((((w.setCell ⟨a.heap.size, 0, none⟩ x0).setCell ⟨a.heap.size, 1, none⟩ x1).setCell ⟨a.heap.size, 2, none⟩ x2).setCell ⟨a.heap.size, 3, none⟩ x3).setCell ⟨a.heap.size, 4, none⟩ x4).setCell ⟨a.heap.size, 5, none⟩ x5) r :=
  grown_behind (grown_behind (grown_behind (grown_behind (grown_behind (grown_behind h (Nat.le_refl _) 0 _) (Nat.le_refl _) 1 _) (Nat.le_refl _) 2 _) (Nat.le_refl _) 3 _) (Nat.le_refl _) 4 _) (Nat.le_refl _) 5 _
/-- a row stays while another block turns -/
theorem row_grown {w w' : World} {b g : Nat} {v : Value} {l : List Int} (h : OwnI b w v l) (hg : w.grownBy w' (some g)) (hne : ∀ k, v.ownBlock = some k → k ≠ g) : OwnI b w' v l :=
  h.marked (v := .slice (some ⟨g, 0, none⟩) 0 0) hg (fun k e1 e2 => hne k e2 (Option.some.inj e1).symm)
/-- a row lies in no box of another type -/
theorem row_clear {W : World} {base b : Nat} {v : Value} {l : List Int} {t : TypeId} {cs : Array Value} (hr : OwnI base W v l) (hb : BoxC W b t cs) (hte : t ≠ 3) : ∀ k, v.ownBlock = some k → k ≠ b := by
  intro k hk e
  rcases hr.2 with ⟨rfl, _⟩ | ⟨q, cap, cur, rfl, _, hgb, _⟩
  · cases hk
  · obtain rfl : q = k := Option.some.inj hk
    subst e
    have := hgb.symm.trans hb
    simp at this
    exact hte this.2.symm
theorem below_grown {w w' : World} {r : Option Nat} (h : Below w.heap.size w w') : w.grownBy w' r := ⟨h.os, h.tape, h.output, h.size, fun k hk _ => h.block k hk⟩
theorem grown_set0 {a w : World} {g : Nat} (h : a.grownBy w (some g)) (j : Nat) (u : Value) : a.grownBy (w.setCell ⟨g, j, none⟩ u) (some g) :=
  ⟨h.os, h.tape, h.output, by simpa [World.setCell] using h.size, fun k hk hne => (Below.heap_setCell w ⟨g, j, none⟩ u k (fun e => hne (by rw [e]))).trans (h.block k hk hne)⟩
set_option maxRecDepth 100000 in
set_option maxHeartbeats 4000000 in
theorem boxPrepare (g : Nat) (x y s t : Int) (b1 b2 : Nat) (v1 v2 : Value) (L1 L2 : List Int) (n : Int) (w : World) (h1 : L1.length ≤ 4194304) (h2 : L2.length ≤ 4194304)
    (hx : BoxC w g 65 #[.int .i32 0, .int .u32 0, .int .i64 x, .int .i64 y, .int .i64 s, .int .i64 t, v1, v2]) (o1 : OwnI b1 w v1 L1) (o2 : OwnI b2 w v2 L2) :
    Calls Try.prog 32 #[.pointer (some ⟨g, 0, none⟩), .int .i64 n] w fun e w' => e = .returned (.bool (prepOk x y s t L1 L2 n)) ∧
      BoxC w' g 65 #[.int .i32 0, .int .u32 0, .int .i64 (prepX x y s t L1 L2 n), .int .i64 y, .int .i64 s, .int .i64 t, v1, v2] ∧ w.grownBy w' (some g) := by
  have HX := Lib.hid hx
  have HP := Lib.hid (show prepOk x y s t L1 L2 n = (accOk x y s t L1 L2 && (inBal n && decide (x < n))) from rfl)
  have HX1 := Lib.hid (show prepX x y s t L1 L2 n = if prepOk x y s t L1 L2 n = true then n else x from rfl)
  have HO1 := Lib.hid o1
  have HO2 := Lib.hid o2
  have hne1 := Lib.hid (row_clear o1 hx (by decide))
  have hne2 := Lib.hid (row_clear o2 hx (by decide))
  obtain ⟨y1, q1, rfl⟩ := o1.shape
  obtain ⟨y2, q2, rfl⟩ := o2.shape
  have HG := Lib.hid (World.grownBy.refl w (some g))
  clear hx o1 o2
  generalize prepOk x y s t L1 L2 n = R at *
  generalize prepX x y s t L1 L2 n = X at *
  have c0 := HX.out.c 0 rfl
  have c1 := HX.out.c 1 rfl
  have c2 := HX.out.c 2 rfl
  have c3 := HX.out.c 3 rfl
  have c4 := HX.out.c 4 rfl
  have c5 := HX.out.c 5 rfl
  have c6 := HX.out.c 6 rfl
  have c7 := HX.out.c 7 rfl
  have f0 := HX.out.f 0
  go_enter_defers Try.func32, Try.ntmps32
  go_wp2_with fail
  refine (lock_free Try.muLib ⟨g, 0, none⟩ _ c0 f0).mono ?_
  rintro e w1 ⟨rfl, hw1⟩
  replace HX := Lib.hid (show BoxC w1 g 65 #[.int .i32 1, .int .u32 0, .int .i64 x, .int .i64 y, .int .i64 s, .int .i64 t, .slice y1 L1.length q1, .slice y2 L2.length q2] by rw [hw1]; exact HX.out.put 0 _)
  replace HG := Lib.hid (show w.grownBy w1 (some g) by rw [hw1]; exact grown_set0 HG.out 0 _)
  replace HO1 := Lib.hid (row_grown HO1.out HG.out hne1.out)
  replace HO2 := Lib.hid (row_grown HO2.out HG.out hne2.out)
  clear hw1 c0 c1 c2 c3 c4 c5 c6 c7 f0
  have c0 := HX.out.c 0 rfl
  have c1 := HX.out.c 1 rfl
  have c2 := HX.out.c 2 rfl
  have c3 := HX.out.c 3 rfl
  have c4 := HX.out.c 4 rfl
  have c5 := HX.out.c 5 rfl
  have c6 := HX.out.c 6 rfl
  have c7 := HX.out.c 7 rfl
  have f0 := HX.out.f 0
  have J1 := Lib.hid (implIsValidAcceptor x y s t _ _ _ _ L1 L2 w1 h1 h2 HO1.out HO2.out)
  go_wp2_with fail
  refine J1.out.mono ?_
  rintro e w2 ⟨rfl, hb⟩
  replace HX := Lib.hid (HX.out.later hb)
  replace HG := Lib.hid (gtrans HG.out (below_grown hb))
  clear hb J1 c0 c1 c2 c3 c4 c5 c6 c7 f0
  have c0 := HX.out.c 0 rfl
  have c1 := HX.out.c 1 rfl
  have c2 := HX.out.c 2 rfl
  have c3 := HX.out.c 3 rfl
  have c4 := HX.out.c 4 rfl
  have c5 := HX.out.c 5 rfl
  have c6 := HX.out.c 6 rfl
  have c7 := HX.out.c 7 rfl
  have f0 := HX.out.f 0
  cases ha : accOk x y s t L1 L2 with
  | false =>
    rw [ha, Bool.false_and] at HP
    clear ha
    go_wp2_with fail
    refine leaves_cons (f := 52) (args := #[.pointer (some ⟨g, 0, none⟩)]) (by simp) (by simp [go_sem]) ?_
    refine (unlock_deferred Try.muLib ⟨g, 0, none⟩ .returning _ c0 f0).mono ?_
    rintro e u' w'' ⟨rfl, rfl, rfl⟩
    exact ⟨_, results_tmp rfl _ _ _, by rw [HP.out]; rfl, by rw [HX1.out, HP.out]; exact HX.out.put 0 _, grown_set0 HG.out 0 _⟩
  | true =>
    rw [ha, Bool.true_and] at HP
    have jb := implBal n w2
    clear ha
    generalize inBal n = q at *
    go_wp2_with fail
    refine jb.mono ?_
    rintro e w4 ⟨rfl, rfl⟩
    clear jb
    cases q with
    | false =>
      rw [Bool.false_and] at HP
      go_wp2_with fail
      refine leaves_cons (f := 52) (args := #[.pointer (some ⟨g, 0, none⟩)]) (by simp) (by simp [go_sem]) ?_
      refine (unlock_deferred Try.muLib ⟨g, 0, none⟩ .returning _ c0 f0).mono ?_
      rintro e u' w'' ⟨rfl, rfl, rfl⟩
      exact ⟨_, results_tmp rfl _ _ _, by rw [HP.out]; rfl, by rw [HX1.out, HP.out]; exact HX.out.put 0 _, grown_set0 HG.out 0 _⟩
    | true =>
      rw [Bool.true_and] at HP
      by_cases hn : x < n
      · rw [decide_eq_true hn] at HP
        have e1 : decide (n ≤ x) = false := decide_eq_false (by omega)
        have f2 := HX.out.f 2
        clear hn
        go_wp2_with fail
        refine leaves_cons (f := 52) (args := #[.pointer (some ⟨g, 0, none⟩)]) (by simp) (by simp [go_sem]) ?_
        have HY := Lib.hid (HX.out.put 2 (.int .i64 n))
        refine (unlock_deferred Try.muLib ⟨g, 0, none⟩ .returning _ (HY.out.c 0 rfl) (HY.out.f 0)).mono ?_
        rintro e u' w'' ⟨rfl, rfl, rfl⟩
        exact ⟨_, results_tmp rfl _ _ _, by rw [HP.out]; rfl, by rw [HX1.out, HP.out]; exact HY.out.put 0 _, grown_set0 (grown_set0 HG.out 2 _) 0 _⟩
      · rw [decide_eq_false hn] at HP
        have e1 : decide (n ≤ x) = true := decide_eq_true (by omega)
        clear hn
        go_wp2_with fail
        refine leaves_cons (f := 52) (args := #[.pointer (some ⟨g, 0, none⟩)]) (by simp) (by simp [go_sem]) ?_
        refine (unlock_deferred Try.muLib ⟨g, 0, none⟩ .returning _ c0 f0).mono ?_
        rintro e u' w'' ⟨rfl, rfl, rfl⟩
        exact ⟨_, results_tmp rfl _ _ _, by rw [HP.out]; rfl, by rw [HX1.out, HP.out]; exact HX.out.put 0 _, grown_set0 HG.out 0 _⟩
set_option maxRecDepth 100000 in
set_option maxHeartbeats 4000000 in
theorem boxAccept (g : Nat) (x y s t : Int) (b1 b2 : Nat) (v1 v2 : Value) (L1 L2 : List Int) (n s' t' : Int) (b3 b4 : Nat) (v3 v4 : Value) (M1 M2 : List Int) (w : World) (h1 : L1.length ≤ 4194304) (h2 : L2.length ≤ 4194304) (k1 : M1.length ≤ 4194304) (k2 : M2.length ≤ 4194304)
    (hx : BoxC w g 65 #[.int .i32 0, .int .u32 0, .int .i64 x, .int .i64 y, .int .i64 s, .int .i64 t, v1, v2]) (o1 : OwnI b1 w v1 L1) (o2 : OwnI b2 w v2 L2) (o3 : OwnI b3 w v3 M1) (o4 : OwnI b4 w v4 M2) :
    Calls Try.prog 37 #[.pointer (some ⟨g, 0, none⟩), .int .i64 n, .agg #[.int .i64 s', .int .i64 t', v3, v4]] w fun e w' => ∃ u1 u2, e = .returned (.bool (acpOk x y s t L1 L2 n s' t' M1 M2)) ∧
      BoxC w' g 65 #[.int .i32 0, .int .u32 0, .int .i64 (acpX x y s t L1 L2 n s' t' M1 M2), .int .i64 (acpY x y s t L1 L2 n s' t' M1 M2), .int .i64 (acpS x y s t L1 L2 n s' t' M1 M2), .int .i64 (acpT x y s t L1 L2 n s' t' M1 M2), u1, u2] ∧
      (∃ c, OwnI c w' u1 (acpL1 x y s t L1 L2 n s' t' M1 M2)) ∧ (∃ c, OwnI c w' u2 (acpL2 x y s t L1 L2 n s' t' M1 M2)) ∧ w.grownBy w' (some g) := by
  obtain ⟨W0, hW0⟩ : ∃ W, W = w.alloc (.cells #[.int .i64 s', .int .i64 t', v3, v4] 26) := ⟨_, rfl⟩
  have hA : Below w.heap.size w W0 := by rw [hW0]; exact (Below.refl _ _).alloc (Nat.le_refl _) _
  have hgw := hx.lt
  have HX := Lib.hid (hx.later hA)
  have HV := Lib.hid (show BoxC W0 w.heap.size 26 #[.int .i64 s', .int .i64 t', v3, v4] by rw [hW0]; exact BoxC.new _ _ _)
  have HP := Lib.hid (show acpOk x y s t L1 L2 n s' t' M1 M2 = (accOk x y s t L1 L2 && (cfgOk s' t' M1 M2 && (inBal n && decide (x ≤ n)))) from by
    unfold acpOk
    cases accOk x y s t L1 L2 <;> cases inBal n <;> cases cfgOk s' t' M1 M2 <;> simp)
  have HNo := Lib.hid (fun h : acpOk x y s t L1 L2 n s' t' M1 M2 = false => (show acpX x y s t L1 L2 n s' t' M1 M2 = x ∧ acpY x y s t L1 L2 n s' t' M1 M2 = y ∧ acpS x y s t L1 L2 n s' t' M1 M2 = s ∧ acpT x y s t L1 L2 n s' t' M1 M2 = t ∧ acpL1 x y s t L1 L2 n s' t' M1 M2 = L1 ∧ acpL2 x y s t L1 L2 n s' t' M1 M2 = L2 from ⟨acpSel_no h _ _, acpSel_no h _ _, acpSel_no h _ _, acpSel_no h _ _, acpSel_no h _ _, acpSel_no h _ _⟩))
  have HYes := Lib.hid (fun h : acpOk x y s t L1 L2 n s' t' M1 M2 = true => (show acpX x y s t L1 L2 n s' t' M1 M2 = n ∧ acpY x y s t L1 L2 n s' t' M1 M2 = n ∧ acpS x y s t L1 L2 n s' t' M1 M2 = s' ∧ acpT x y s t L1 L2 n s' t' M1 M2 = t' ∧ acpL1 x y s t L1 L2 n s' t' M1 M2 = M1 ∧ acpL2 x y s t L1 L2 n s' t' M1 M2 = M2 from ⟨acpSel_yes h _ _, acpSel_yes h _ _, acpSel_yes h _ _, acpSel_yes h _ _, acpSel_yes h _ _, acpSel_yes h _ _⟩))
  have hne1 := Lib.hid (row_clear o1 hx (by decide))
  have hne2 := Lib.hid (row_clear o2 hx (by decide))
  have hne3 := Lib.hid (row_clear o3 hx (by decide))
  have hne4 := Lib.hid (row_clear o4 hx (by decide))
  have JR := Lib.hid (fun W (h : w.grownBy W (some g)) => (⟨row_grown o1 h hne1.out, row_grown o2 h hne2.out, row_grown o3 h hne3.out, row_grown o4 h hne4.out⟩ : OwnI b1 W v1 L1 ∧ OwnI b2 W v2 L2 ∧ OwnI b3 W v3 M1 ∧ OwnI b4 W v4 M2))
  obtain ⟨y1, q1, rfl⟩ := o1.shape
  obtain ⟨y2, q2, rfl⟩ := o2.shape
  obtain ⟨y3, q3, rfl⟩ := o3.shape
  obtain ⟨y4, q4, rfl⟩ := o4.shape
  have HG := Lib.hid (below_grown (r := some g) hA)
  have hvg : w.heap.size ≠ g := by omega
  have HW := Lib.hid hW0
  clear hx o1 o2 o3 o4 hne1 hne2 hne3 hne4 hA hW0 hgw
  generalize acpOk x y s t L1 L2 n s' t' M1 M2 = R at *
  generalize acpX x y s t L1 L2 n s' t' M1 M2 = X1 at *
  generalize acpY x y s t L1 L2 n s' t' M1 M2 = X2 at *
  generalize acpS x y s t L1 L2 n s' t' M1 M2 = X3 at *
  generalize acpT x y s t L1 L2 n s' t' M1 M2 = X4 at *
  generalize acpL1 x y s t L1 L2 n s' t' M1 M2 = X5 at *
  generalize acpL2 x y s t L1 L2 n s' t' M1 M2 = X6 at *
  have c0 := HX.out.c 0 rfl
  have c1 := HX.out.c 1 rfl
  have c2 := HX.out.c 2 rfl
  have c3 := HX.out.c 3 rfl
  have c4 := HX.out.c 4 rfl
  have c5 := HX.out.c 5 rfl
  have c6 := HX.out.c 6 rfl
  have c7 := HX.out.c 7 rfl
  have f0 := HX.out.f 0
  go_enter_defers Try.func37, Try.ntmps37
  go_wp2_with fail
  rw [← HW.out]
  clear HW
  refine (lock_free Try.muLib ⟨g, 0, none⟩ _ c0 f0).mono ?_
  rintro e w1 ⟨rfl, hw1⟩
  replace HX := Lib.hid (show BoxC w1 g 65 #[.int .i32 1, .int .u32 0, .int .i64 x, .int .i64 y, .int .i64 s, .int .i64 t, .slice y1 L1.length q1, .slice y2 L2.length q2] by rw [hw1]; exact HX.out.put 0 _)
  replace HG := Lib.hid (show w.grownBy w1 (some g) by rw [hw1]; exact grown_set0 HG.out 0 _)
  replace HV := Lib.hid (show BoxC w1 w.heap.size 26 _ by rw [hw1]; exact HV.out.keep hvg 0 _)
  clear hw1 c0 c1 c2 c3 c4 c5 c6 c7 f0
  have c0 := HX.out.c 0 rfl
  have c1 := HX.out.c 1 rfl
  have c2 := HX.out.c 2 rfl
  have c3 := HX.out.c 3 rfl
  have c4 := HX.out.c 4 rfl
  have c5 := HX.out.c 5 rfl
  have c6 := HX.out.c 6 rfl
  have c7 := HX.out.c 7 rfl
  have f0 := HX.out.f 0
  have d0 := HV.out.c 0 rfl
  have d1 := HV.out.c 1 rfl
  have d2 := HV.out.c 2 rfl
  have d3 := HV.out.c 3 rfl
  have J1 := Lib.hid (implIsValidAcceptor x y s t _ _ _ _ L1 L2 w1 h1 h2 (JR.out _ HG.out).1 (JR.out _ HG.out).2.1)
  go_wp2_with fail
  refine J1.out.mono ?_
  rintro e w2 ⟨rfl, hb⟩
  replace HX := Lib.hid (HX.out.later hb)
  replace HV := Lib.hid (HV.out.later hb)
  replace HG := Lib.hid (gtrans HG.out (below_grown hb))
  clear hb c0 c1 c2 c3 c4 c5 c6 c7 f0 d0 d1 d2 d3
  have c0 := HX.out.c 0 rfl
  have c1 := HX.out.c 1 rfl
  have c2 := HX.out.c 2 rfl
  have c3 := HX.out.c 3 rfl
  have c4 := HX.out.c 4 rfl
  have c5 := HX.out.c 5 rfl
  have c6 := HX.out.c 6 rfl
  have c7 := HX.out.c 7 rfl
  have f0 := HX.out.f 0
  have d0 := HV.out.c 0 rfl
  have d1 := HV.out.c 1 rfl
  have d2 := HV.out.c 2 rfl
  have d3 := HV.out.c 3 rfl
  clear J1
  cases ha : accOk x y s t L1 L2 with
  | false =>
    rw [ha, Bool.false_and] at HP
    clear ha
    obtain ⟨e1', e2', e3', e4', e5', e6'⟩ := HNo.out HP.out
    replace e1' := e1'.symm
    replace e2' := e2'.symm
    replace e3' := e3'.symm
    replace e4' := e4'.symm
    replace e5' := e5'.symm
    replace e6' := e6'.symm
    subst e1' e2' e3' e4' e5' e6'
    have E := Lib.hid HP.out
    clear HP HNo HYes
    go_wp2_with fail
    refine leaves_cons (f := 52) (args := #[.pointer (some ⟨g, 0, none⟩)]) (by simp) (by simp [go_sem]) ?_
    refine (unlock_deferred Try.muLib ⟨g, 0, none⟩ .returning _ c0 f0).mono ?_
    rintro e u' w'' ⟨rfl, rfl, rfl⟩
    have HG2 := grown_set0 HG.out 0 (.int .i32 0)
    exact ⟨_, results_tmp rfl _ _ _, _, _, by rw [E.out]; rfl, HX.out.put 0 _, ⟨_, (JR.out _ HG2).1⟩, ⟨_, (JR.out _ HG2).2.1⟩, HG2⟩
  | true =>
    rw [ha, Bool.true_and] at HP
    have jc := implIsValidConfig s' t' _ _ _ _ M1 M2 w2 k1 k2 (JR.out _ HG.out).2.2.1 (JR.out _ HG.out).2.2.2
    clear ha
    generalize cfgOk s' t' M1 M2 = q at *
    go_wp2_with fail
    refine jc.mono ?_
    rintro e w4 ⟨rfl, hb⟩
    clear jc
    replace HX := Lib.hid (HX.out.later hb)
    replace HV := Lib.hid (HV.out.later hb)
    replace HG := Lib.hid (gtrans HG.out (below_grown hb))
    clear hb c0 c1 c2 c3 c4 c5 c6 c7 f0 d0 d1 d2 d3
    have c0 := HX.out.c 0 rfl
    have c1 := HX.out.c 1 rfl
    have c2 := HX.out.c 2 rfl
    have c3 := HX.out.c 3 rfl
    have c4 := HX.out.c 4 rfl
    have c5 := HX.out.c 5 rfl
    have c6 := HX.out.c 6 rfl
    have c7 := HX.out.c 7 rfl
    have f0 := HX.out.f 0
    have d0 := HV.out.c 0 rfl
    have d1 := HV.out.c 1 rfl
    have d2 := HV.out.c 2 rfl
    have d3 := HV.out.c 3 rfl
    cases q with
    | false =>
      rw [Bool.false_and] at HP
      obtain ⟨e1', e2', e3', e4', e5', e6'⟩ := HNo.out HP.out
      replace e1' := e1'.symm
      replace e2' := e2'.symm
      replace e3' := e3'.symm
      replace e4' := e4'.symm
      replace e5' := e5'.symm
      replace e6' := e6'.symm
      subst e1' e2' e3' e4' e5' e6'
      have E := Lib.hid HP.out
      clear HP HNo HYes
      go_wp2_with fail
      refine leaves_cons (f := 52) (args := #[.pointer (some ⟨g, 0, none⟩)]) (by simp) (by simp [go_sem]) ?_
      refine (unlock_deferred Try.muLib ⟨g, 0, none⟩ .returning _ c0 f0).mono ?_
      rintro e u' w'' ⟨rfl, rfl, rfl⟩
      have HG2 := grown_set0 HG.out 0 (.int .i32 0)
      exact ⟨_, results_tmp rfl _ _ _, _, _, by rw [E.out]; rfl, HX.out.put 0 _, ⟨_, (JR.out _ HG2).1⟩, ⟨_, (JR.out _ HG2).2.1⟩, HG2⟩
    | true =>
      rw [Bool.true_and] at HP
      have jb := implBal n w4
      generalize inBal n = q at *
      go_wp2_with fail
      refine jb.mono ?_
      rintro e w5 ⟨rfl, rfl⟩
      clear jb
      cases q with
      | false =>
        rw [Bool.false_and] at HP
        obtain ⟨e1', e2', e3', e4', e5', e6'⟩ := HNo.out HP.out
        replace e1' := e1'.symm
        replace e2' := e2'.symm
        replace e3' := e3'.symm
        replace e4' := e4'.symm
        replace e5' := e5'.symm
        replace e6' := e6'.symm
        subst e1' e2' e3' e4' e5' e6'
        have E := Lib.hid HP.out
        clear HP HNo HYes
        go_wp2_with fail
        refine leaves_cons (f := 52) (args := #[.pointer (some ⟨g, 0, none⟩)]) (by simp) (by simp [go_sem]) ?_
        refine (unlock_deferred Try.muLib ⟨g, 0, none⟩ .returning _ c0 f0).mono ?_
        rintro e u' w'' ⟨rfl, rfl, rfl⟩
        have HG2 := grown_set0 HG.out 0 (.int .i32 0)
        exact ⟨_, results_tmp rfl _ _ _, _, _, by rw [E.out]; rfl, HX.out.put 0 _, ⟨_, (JR.out _ HG2).1⟩, ⟨_, (JR.out _ HG2).2.1⟩, HG2⟩
      | true =>
        rw [Bool.true_and] at HP
        by_cases hn : x ≤ n
        · rw [decide_eq_true hn] at HP
          have e1 : decide (n < x) = false := decide_eq_false (by omega)
          obtain ⟨e1', e2', e3', e4', e5', e6'⟩ := HYes.out HP.out
          replace e1' := e1'.symm
          replace e2' := e2'.symm
          replace e3' := e3'.symm
          replace e4' := e4'.symm
          replace e5' := e5'.symm
          replace e6' := e6'.symm
          subst e1' e2' e3' e4' e5' e6'
          have E := Lib.hid HP.out
          clear HP HNo HYes hn
          have f2 := HX.out.f 2
          have f3 := HX.out.f 3
          have f4 := HX.out.f 4
          have f5 := HX.out.f 5
          have f6 := HX.out.f 6
          have f7 := HX.out.f 7
          go_wp2_with fail
          refine leaves_cons (f := 52) (args := #[.pointer (some ⟨g, 0, none⟩)]) (by simp) (by simp [go_sem]) ?_
          have HY := Lib.hid ((((((HX.out.put 2 (.int .i64 n)).put 3 (.int .i64 n)).put 4 (.int .i64 s')).put 5 (.int .i64 t')).put 6 (.slice y3 M1.length q3)).put 7 (.slice y4 M2.length q4))
          have HG1 := Lib.hid (grown_set0 (grown_set0 (grown_set0 (grown_set0 (grown_set0 (grown_set0 HG.out 2 (.int .i64 n)) 3 (.int .i64 n)) 4 (.int .i64 s')) 5 (.int .i64 t')) 6 (.slice y3 M1.length q3)) 7 (.slice y4 M2.length q4))
          refine (unlock_deferred Try.muLib ⟨g, 0, none⟩ .returning _ (HY.out.c 0 rfl) (HY.out.f 0)).mono ?_
          rintro e u' w'' ⟨rfl, rfl, rfl⟩
          have HG2 := grown_set0 HG1.out 0 (.int .i32 0)
          exact ⟨_, results_tmp rfl _ _ _, _, _, by rw [E.out]; rfl, HY.out.put 0 _, ⟨_, (JR.out _ HG2).2.2.1⟩, ⟨_, (JR.out _ HG2).2.2.2⟩, HG2⟩
        · rw [decide_eq_false hn] at HP
          have e1 : decide (n < x) = true := decide_eq_true (by omega)
          clear hn
          obtain ⟨e1', e2', e3', e4', e5', e6'⟩ := HNo.out HP.out
          replace e1' := e1'.symm
          replace e2' := e2'.symm
          replace e3' := e3'.symm
          replace e4' := e4'.symm
          replace e5' := e5'.symm
          replace e6' := e6'.symm
          subst e1' e2' e3' e4' e5' e6'
          have E := Lib.hid HP.out
          clear HP HNo HYes
          go_wp2_with fail
          refine leaves_cons (f := 52) (args := #[.pointer (some ⟨g, 0, none⟩)]) (by simp) (by simp [go_sem]) ?_
          refine (unlock_deferred Try.muLib ⟨g, 0, none⟩ .returning _ c0 f0).mono ?_
          rintro e u' w'' ⟨rfl, rfl, rfl⟩
          have HG2 := grown_set0 HG.out 0 (.int .i32 0)
          exact ⟨_, results_tmp rfl _ _ _, _, _, by rw [E.out]; rfl, HX.out.put 0 _, ⟨_, (JR.out _ HG2).1⟩, ⟨_, (JR.out _ HG2).2.1⟩, HG2⟩
set_option maxRecDepth 100000 in
set_option maxHeartbeats 4000000 in
theorem boxAcceptor (g : Nat) (x y s t : Int) (b1 b2 : Nat) (v1 v2 : Value) (L1 L2 : List Int) (w : World) (h1 : L1.length ≤ 4194304) (h2 : L2.length ≤ 4194304)
    (hx : BoxC w g 65 #[.int .i32 0, .int .u32 0, .int .i64 x, .int .i64 y, .int .i64 s, .int .i64 t, v1, v2]) (o1 : OwnI b1 w v1 L1) (o2 : OwnI b2 w v2 L2) :
    Calls Try.prog 33 #[.pointer (some ⟨g, 0, none⟩)] w fun e w' => ∃ u1 u2, e = .returned (.agg #[.int .i64 x, .int .i64 y, .int .i64 s, .int .i64 t, u1, u2]) ∧ OwnI w.heap.size w' u1 L1 ∧ OwnI w.heap.size w' u2 L2 ∧ w.grownBy w' (some g) ∧ Apart u1 u2 := by
  obtain ⟨W0, hW0⟩ : ∃ W, W = w.alloc (.cells #[.int .i64 0, .int .i64 0, .int .i64 0, .int .i64 0, .slice none 0 0, .slice none 0 0] 28) := ⟨_, rfl⟩
  have hA : Below w.heap.size w W0 := by rw [hW0]; exact (Below.refl _ _).alloc (Nat.le_refl _) _
  have hgw := hx.lt
  have HX := Lib.hid (hx.later hA)
  have HR := Lib.hid (show BoxC W0 w.heap.size 28 #[.int .i64 0, .int .i64 0, .int .i64 0, .int .i64 0, .slice none 0 0, .slice none 0 0] by rw [hW0]; exact BoxC.new _ _ _)
  have hne1 := Lib.hid (row_clear o1 hx (by decide))
  have hne2 := Lib.hid (row_clear o2 hx (by decide))
  have JR := Lib.hid (fun W (h : w.grownBy W (some g)) => (⟨row_grown o1 h hne1.out, row_grown o2 h hne2.out⟩ : OwnI b1 W v1 L1 ∧ OwnI b2 W v2 L2))
  obtain ⟨y1, q1, rfl⟩ := o1.shape
  obtain ⟨y2, q2, rfl⟩ := o2.shape
  have HG := Lib.hid (below_grown (r := some g) hA)
  have hvg : w.heap.size ≠ g := by omega
  have HW := Lib.hid hW0
  clear hx o1 o2 hne1 hne2 hA hW0
  have c0 := HX.out.c 0 rfl
  have c1 := HX.out.c 1 rfl
  have c2 := HX.out.c 2 rfl
  have c3 := HX.out.c 3 rfl
  have c4 := HX.out.c 4 rfl
  have c5 := HX.out.c 5 rfl
  have c6 := HX.out.c 6 rfl
  have c7 := HX.out.c 7 rfl
  have f0 := HX.out.f 0
  go_enter_defers Try.func33, Try.ntmps33
  go_wp2_with fail
  rw [← HW.out]
  clear HW
  refine (lock_free Try.muLib ⟨g, 0, none⟩ _ c0 f0).mono ?_
  rintro e w1 ⟨rfl, hw1⟩
  replace HX := Lib.hid (show BoxC w1 g 65 #[.int .i32 1, .int .u32 0, .int .i64 x, .int .i64 y, .int .i64 s, .int .i64 t, .slice y1 L1.length q1, .slice y2 L2.length q2] by rw [hw1]; exact HX.out.put 0 _)
  replace HG := Lib.hid (show w.grownBy w1 (some g) by rw [hw1]; exact grown_set0 HG.out 0 _)
  replace HR := Lib.hid (show BoxC w1 w.heap.size 28 _ by rw [hw1]; exact HR.out.keep hvg 0 _)
  clear hw1 c0 c1 c2 c3 c4 c5 c6 c7 f0
  have c0 := HX.out.c 0 rfl
  have c1 := HX.out.c 1 rfl
  have c2 := HX.out.c 2 rfl
  have c3 := HX.out.c 3 rfl
  have c4 := HX.out.c 4 rfl
  have c5 := HX.out.c 5 rfl
  have c6 := HX.out.c 6 rfl
  have c7 := HX.out.c 7 rfl
  have f0 := HX.out.f 0
  have J1 := Lib.hid (copyAcceptor x y s t _ _ _ _ L1 L2 w1 h1 h2 (JR.out _ HG.out).1 (JR.out _ HG.out).2)
  go_wp2_with fail
  refine J1.out.mono ?_
  rintro e w2 ⟨u1, u2, rfl, ho1, ho2, hb, hap⟩
  obtain ⟨z1, k1, rfl⟩ := ho1.shape
  obtain ⟨z2, k2, rfl⟩ := ho2.shape
  have HAP := Lib.hid hap
  have HO1 := Lib.hid (ho1.mono HG.out.size)
  have HO2 := Lib.hid (ho2.mono HG.out.size)
  replace HX := Lib.hid (HX.out.later hb)
  replace HR := Lib.hid (HR.out.later hb)
  replace HG := Lib.hid (gtrans HG.out (below_grown hb))
  clear hb J1 hap ho1 ho2 c0 c1 c2 c3 c4 c5 c6 c7 f0
  have c0 := HX.out.c 0 rfl
  have c1 := HX.out.c 1 rfl
  have c2 := HX.out.c 2 rfl
  have c3 := HX.out.c 3 rfl
  have c4 := HX.out.c 4 rfl
  have c5 := HX.out.c 5 rfl
  have c6 := HX.out.c 6 rfl
  have c7 := HX.out.c 7 rfl
  have f0 := HX.out.f 0
  have r0 := HR.out.c 0 rfl
  have r1 := HR.out.c 1 rfl
  have r2 := HR.out.c 2 rfl
  have r3 := HR.out.c 3 rfl
  have r4 := HR.out.c 4 rfl
  have r5 := HR.out.c 5 rfl
  have g0 := HR.out.f 0
  have g1 := HR.out.f 1
  have g2 := HR.out.f 2
  have g3 := HR.out.f 3
  have g4 := HR.out.f 4
  have g5 := HR.out.f 5
  go_wp2_with fail
  obtain ⟨W6, hW6⟩ : ∃ W, W = ((((((w2.setCell ⟨w.heap.size, 0, none⟩ (.int .i64 x)).setCell ⟨w.heap.size, 1, none⟩ (.int .i64 y)).setCell ⟨w.heap.size, 2, none⟩ (.int .i64 s)).setCell ⟨w.heap.size, 3, none⟩ (.int .i64 t)).setCell ⟨w.heap.size, 4, none⟩ (.slice z1 L1.length k1)).setCell ⟨w.heap.size, 5, none⟩ (.slice z2 L2.length k2)) := ⟨_, rfl⟩
  rw [← hW6]
  have HR6 := Lib.hid (show BoxC W6 w.heap.size 28 #[.int .i64 x, .int .i64 y, .int .i64 s, .int .i64 t, .slice z1 L1.length k1, .slice z2 L2.length k2] by rw [hW6]; exact (((((HR.out.put 0 _).put 1 _).put 2 _).put 3 _).put 4 _).put 5 _)
  have hgv : g ≠ w.heap.size := Ne.symm hvg
  have HX6 := Lib.hid (show BoxC W6 g 65 #[.int .i32 1, .int .u32 0, .int .i64 x, .int .i64 y, .int .i64 s, .int .i64 t, .slice y1 L1.length q1, .slice y2 L2.length q2] by
    rw [hW6]
    exact (((((HX.out.keep hgv 0 _).keep hgv 1 _).keep hgv 2 _).keep hgv 3 _).keep hgv 4 _).keep hgv 5 _)
  have HO16 := Lib.hid (show OwnI w.heap.size W6 _ L1 by rw [hW6]; exact put6 HO1.out HR.out (by decide) _ _ _ _ _ _)
  have HO26 := Lib.hid (show OwnI w.heap.size W6 _ L2 by rw [hW6]; exact put6 HO2.out HR.out (by decide) _ _ _ _ _ _)
  have HG6 := Lib.hid (show w.grownBy W6 (some g) by rw [hW6]; exact grown_behind6 HG.out _ _ _ _ _ _)
  refine leaves_cons (f := 52) (args := #[.pointer (some ⟨g, 0, none⟩)]) (by simp) (by simp [go_sem]) ?_
  refine (unlock_deferred Try.muLib ⟨g, 0, none⟩ .returning _ (HX6.out.c 0 rfl) (HX6.out.f 0)).mono ?_
  rintro e u' w'' ⟨rfl, rfl, rfl⟩
  have HR7 := HR6.out.keep hvg 0 (.int .i32 0)
  have t0 := HR7.c 0 rfl
  have t1 := HR7.c 1 rfl
  have t2 := HR7.c 2 rfl
  have t3 := HR7.c 3 rfl
  have t4 := HR7.c 4 rfl
  have t5 := HR7.c 5 rfl
  refine ⟨.agg #[.int .i64 x, .int .i64 y, .int .i64 s, .int .i64 t, .slice z1 L1.length k1, .slice z2 L2.length k2], by simp [results, Try.results33, go_sem, t0, t1, t2, t3, t4, t5], _, _, rfl, ?_, ?_, grown_set0 HG6.out 0 _, HAP.out⟩
  · exact rowI_put HO16.out HX6.out (by decide) 0 _
  · exact rowI_put HO26.out HX6.out (by decide) 0 _
end Go.Proofs.Ytgjebjoaemeeoaa.kit
