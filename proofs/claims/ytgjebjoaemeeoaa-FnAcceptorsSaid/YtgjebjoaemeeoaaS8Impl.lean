/-
  Chapter 8: what the program's functions on configurations return.
-/
import Derived.Test.YtgjebjoaemeeoaaS8Plain
import Derived.Test.YtgjebjoaemeeoaaS2Bits
import Derived.Test.YtgjebjoaemeeoaaConf
namespace Go.Proofs.Ytgjebjoaemeeoaa.kit
open Go.ChangeShapes Go.WideShapes Go.ChangeAt Go.RowKit
set_option linter.unusedVariables false
set_option linter.unusedSimpArgs false

theorem and_bits {m n : Nat} (hm : m < 32) (hn : n < 32) : (bits .and .u8 (m : Int) (n : Int) == 0) = decide (m &&& n = 0) := by
  have h : ∀ m : Nat, m < 32 → ∀ n : Nat, n < 32 → (bits .and .u8 (m : Int) (n : Int) == 0) = decide (m &&& n = 0) := by decide +kernel
  exact h m hm n hn
theorem or_bits {m n : Nat} (hm : m < 32) (hn : n < 32) : bits .or .u8 (m : Int) (n : Int) = ((m ||| n : Nat) : Int) := by
  have h : ∀ m : Nat, m < 32 → ∀ n : Nat, n < 32 → bits .or .u8 (m : Int) (n : Int) = ((m ||| n : Nat) : Int) := by decide +kernel
  exact h m hm n hn
theorem are_mask {l : List Int} (h : are l = true) : bitsOf (maskOf l) = l := by
  obtain ⟨m, hm, rfl⟩ := bits_of_are h
  rw [mask_bits hm]
def grpV (x y : Int) (m n : Nat) : Value := .agg #[.int .i64 x, .int .i64 y, .int .u8 m, .int .u8 n]
set_option maxRecDepth 100000 in
theorem implHasEpoch (x : Int) (w : World) : Calls Try.prog 82 #[.int .i64 x] w fun e w' => e = .returned (.bool (inE x)) ∧ w = w' := by
  by_cases h1 : 1 ≤ x
  · by_cases h2 : x ≤ 20
    · have HF := Lib.hid (show inE x = true from decide_eq_true ⟨h1, h2⟩)
      go_enter Try.func82, Try.ntmps82
      go_wp2_with go_in
      go_ret
      exact ⟨by rw [HF.out]; rfl, rfl⟩
    · have HF := Lib.hid (show inE x = false from decide_eq_false (fun h => h2 h.2))
      go_enter Try.func82, Try.ntmps82
      go_wp2_with go_in
      go_ret
      exact ⟨by rw [HF.out]; rfl, rfl⟩
  · have HF := Lib.hid (show inE x = false from decide_eq_false (fun h => h1 h.1))
    go_enter Try.func82, Try.ntmps82
    go_wp2_with go_in
    go_ret
    exact ⟨by rw [HF.out]; rfl, rfl⟩
set_option maxRecDepth 100000 in
theorem implGroupValid (x y : Int) (m n : Nat) (w : World) (hm : m < 32) (hn : n < 32) :
    Calls Try.prog 71 #[grpV x y m n] w fun e w' => e = .returned (.bool (inE x && (decide (y ∈ bitsOf m) && decide (m &&& n = 0)))) ∧ Below w.heap.size w w' := by
  have j1 := fun W => implHasEpoch x W
  have j2 := fun W => implHasBit m y W hm
  have g := and_bits hm hn
  have HB := Lib.hid (show Below w.heap.size w (w.alloc (.cells #[.int .i64 x, .int .i64 y, .int .u8 m, .int .u8 n] 89)) from (Below.refl _ _).alloc (Nat.le_refl _) _)
  unfold grpV
  generalize inE x = p at *
  generalize decide (y ∈ bitsOf m) = q at *
  generalize decide (m &&& n = 0) = r at *
  have J1 := fun W => Lib.hid (j1 W)
  have J2 := fun W => Lib.hid (j2 W)
  clear j1 j2 hm hn
  cases p <;> cases q <;> cases r
  all_goals
    go_enter Try.func71, Try.ntmps71
    go_wp2_with (first | (go_at_call 82; refine (J1 _).out.mono ?_; rintro e w1 ⟨rfl, rfl⟩) | (go_at_call 83; refine (J2 _).out.mono ?_; rintro e w1 ⟨rfl, rfl⟩))
    go_ret
    exact ⟨rfl, HB.out⟩
theorem cfgOk_mask {x y : Int} {L1 L2 : List Int} (h1 : are L1 = true) (h2 : are L2 = true) : cfgOk x y L1 L2 = (inE x && (decide (y ∈ bitsOf (maskOf L1)) && decide (maskOf L1 &&& maskOf L2 = 0))) := by
  rw [cfgOk_parts, h1, h2, Bool.true_and, Bool.true_and, ← bits_common (mask_lt L1) (mask_lt L2), are_mask h1, are_mask h2]
  simp [List.length_eq_zero_iff]
def gV (x y : Int) (L1 L2 : List Int) : Value := if cfgOk x y L1 L2 = true then grpV x y (maskOf L1) (maskOf L2) else grpV 0 0 0 0
theorem gV_no {x y : Int} {L1 L2 : List Int} (h : cfgOk x y L1 L2 = false) : gV x y L1 L2 = .agg #[.int .i64 0, .int .i64 0, .int .u8 0, .int .u8 0] := by unfold gV; rw [h]; rfl
theorem gV_yes {x y : Int} {L1 L2 : List Int} (h : cfgOk x y L1 L2 = true) : gV x y L1 L2 = .agg #[.int .i64 x, .int .i64 y, .int .u8 (maskOf L1 : Nat), .int .u8 (maskOf L2 : Nat)] := by unfold gV; rw [if_pos h]; rfl
set_option maxRecDepth 100000 in
set_option maxHeartbeats 2000000 in
theorem implGroupOf (x y : Int) (a1 : Option Addr) (q1 : Nat) (L1 : List Int) (a2 : Option Addr) (q2 : Nat) (L2 : List Int) (w : World) (h1 : L1.length ≤ 4194304) (h2 : L2.length ≤ 4194304) (ha1 : At w a1 L1) (ha2 : At w a2 L2) :
    Calls Try.prog 60 #[.agg #[.int .i64 x, .int .i64 y, .slice a1 L1.length q1, .slice a2 L2.length q2]] w fun e w' => e = .returned (.tuple #[gV x y L1 L2, .bool (cfgOk x y L1 L2)]) ∧ Below w.heap.size w w' := by
  have j1 := fun W (hW : Below w.heap.size w W) => implSetOf a1 q1 L1 W h1 (ha1.later hW)
  have j2 := fun W (hW : Below w.heap.size w W) => implSetOf a2 q2 L2 W h2 (ha2.later hW)
  obtain ⟨W, hW⟩ : ∃ W, W = (w.alloc (.cells #[.int .i64 x, .int .i64 y, .slice a1 L1.length q1, .slice a2 L2.length q2] 26)).alloc (.cells #[.int .i64 0, .int .i64 0, .int .u8 0, .int .u8 0] 89) := ⟨_, rfl⟩
  have hB : Below w.heap.size w W := by rw [hW]; exact ((Below.refl _ _).alloc (Nat.le_refl _) _).alloc (by simp) _
  have HC := Lib.hid (show BoxC W w.heap.size 26 #[.int .i64 x, .int .i64 y, .slice a1 L1.length q1, .slice a2 L2.length q2] by rw [hW]; exact (BoxC.new _ _ _).later ((Below.refl _ _).alloc (Nat.le_refl _) _))
  have HR := Lib.hid (show BoxC W (w.heap.size + 1) 89 #[.int .i64 0, .int .i64 0, .int .u8 0, .int .u8 0] by
    rw [hW]
    have h := BoxC.new (w.alloc (.cells #[.int .i64 x, .int .i64 y, .slice a1 L1.length q1, .slice a2 L2.length q2] 26)) 89 #[.int .i64 0, .int .i64 0, .int .u8 0, .int .u8 0]
    rwa [World.size_alloc] at h)
  have hm1 := mask_lt L1
  have hm2 := mask_lt L2
  have HE := Lib.hid (show are L1 = false ∨ are L2 = false → cfgOk x y L1 L2 = false from fun h => by
    rw [cfgOk_parts]; rcases h with h | h <;> rw [h] <;> simp)
  have HE2 := Lib.hid (fun h1 h2 => cfgOk_mask (x := x) (y := y) (L1 := L1) (L2 := L2) h1 h2)
  have HN := Lib.hid (fun h => gV_no (x := x) (y := y) (L1 := L1) (L2 := L2) h)
  have HY := Lib.hid (fun h => gV_yes (x := x) (y := y) (L1 := L1) (L2 := L2) h)
  have j3 := fun W => implGroupValid x y (maskOf L1) (maskOf L2) W hm1 hm2
  unfold grpV at j3
  generalize (inE x && (decide (y ∈ bitsOf (maskOf L1)) && decide (maskOf L1 &&& maskOf L2 = 0))) = ok at *
  generalize maskOf L1 = m1 at *
  generalize maskOf L2 = m2 at *
  have HB := Lib.hid hB
  have HW := Lib.hid hW
  have J1 := Lib.hid (j1 W hB)
  have J2 := Lib.hid j2
  have J3 := Lib.hid j3
  clear hB hW j1 j2 j3 ha1 ha2
  go_enter Try.func60, Try.ntmps60
  go_wp2_with fail
  rw [← HW.out]
  have x2 := HC.out.c 2 rfl
  refine J1.out.mono ?_
  rintro e w1 ⟨rfl, hb⟩
  replace HR := Lib.hid (HR.out.later hb)
  replace HC := Lib.hid (HC.out.later hb)
  replace HB := Lib.hid (HB.out.trans (hb.mono HB.out.size))
  clear hb HW J1 x2
  have x3 := HC.out.c 3 rfl
  go_wp2_with fail
  refine (J2.out _ HB.out).mono ?_
  rintro e w2 ⟨rfl, hb⟩
  replace HR := Lib.hid (HR.out.later hb)
  replace HC := Lib.hid (HC.out.later hb)
  replace HB := Lib.hid (HB.out.trans (hb.mono HB.out.size))
  have hbA := (Below.refl w2.heap.size w2).alloc (Nat.le_refl _) (.cells #[.int .i64 x, .int .i64 y, .int .u8 (m1 : Nat), .int .u8 (m2 : Nat)] 89)
  have HR2 := Lib.hid (HR.out.later hbA)
  have HB2 := Lib.hid (HB.out.trans (hbA.mono HB.out.size))
  clear hb J2 x3 hbA
  have x0 := HC.out.c 0 rfl
  have x1 := HC.out.c 1 rfl
  have x2 := HC.out.c 2 rfl
  have x3 := HC.out.c 3 rfl
  cases e1 : are L1 with
  | false =>
    have HF := Lib.hid (HE.out (.inl e1))
    replace HR := HR2
    replace HB := HB2
    clear e1 J3
    have r0 := HR.out.c 0 rfl
    have r1 := HR.out.c 1 rfl
    have r2 := HR.out.c 2 rfl
    have r3 := HR.out.c 3 rfl
    have f0 := HR.out.f 0
    have f1 := HR.out.f 1
    have f2 := HR.out.f 2
    have f3 := HR.out.f 3
    go_wp2_with fail
    refine bodyPost_ret (v := .tuple #[.agg #[.int .i64 0, .int .i64 0, .int .u8 0, .int .u8 0], .bool false]) (by simp [results, Try.results60, go_sem, r0, r1, r2, r3]) rfl ?_
    refine ⟨by rw [HN.out HF.out, HF.out], ?_⟩
    exact
      (((HB.out.setCell (p := ⟨w.heap.size + 1, 0, none⟩) (Nat.le_succ _) _).setCell (p := ⟨w.heap.size + 1, 1, none⟩) (Nat.le_succ _) _).setCell (p := ⟨w.heap.size + 1, 2, none⟩) (Nat.le_succ _) _).setCell (p := ⟨w.heap.size + 1, 3, none⟩) (Nat.le_succ _) _
  | true =>
    cases e2 : are L2 with
    | false =>
      have HF := Lib.hid (HE.out (.inr e2))
      replace HR := HR2
      replace HB := HB2
      clear e1 e2 J3
      have r0 := HR.out.c 0 rfl
      have r1 := HR.out.c 1 rfl
      have r2 := HR.out.c 2 rfl
      have r3 := HR.out.c 3 rfl
      have f0 := HR.out.f 0
      have f1 := HR.out.f 1
      have f2 := HR.out.f 2
      have f3 := HR.out.f 3
      go_wp2_with fail
      refine bodyPost_ret (v := .tuple #[.agg #[.int .i64 0, .int .i64 0, .int .u8 0, .int .u8 0], .bool false]) (by simp [results, Try.results60, go_sem, r0, r1, r2, r3]) rfl ?_
      refine ⟨by rw [HN.out HF.out, HF.out], ?_⟩
      exact
        (((HB.out.setCell (p := ⟨w.heap.size + 1, 0, none⟩) (Nat.le_succ _) _).setCell (p := ⟨w.heap.size + 1, 1, none⟩) (Nat.le_succ _) _).setCell (p := ⟨w.heap.size + 1, 2, none⟩) (Nat.le_succ _) _).setCell (p := ⟨w.heap.size + 1, 3, none⟩) (Nat.le_succ _) _
    | true =>
      have HK := Lib.hid (HE2.out e1 e2)
      clear e1 e2
      go_wp2_with fail
      refine (J3.out _).mono ?_
      rintro e w3 ⟨rfl, hb⟩
      replace HR := Lib.hid (HR2.out.later hb)
      replace HB := Lib.hid (HB2.out.trans (hb.mono HB2.out.size))
      have HG := Lib.hid ((BoxC.new w2 89 #[.int .i64 x, .int .i64 y, .int .u8 (m1 : Nat), .int .u8 (m2 : Nat)]).later hb)
      clear hb HR2 HB2 J3
      have r0 := HR.out.c 0 rfl
      have r1 := HR.out.c 1 rfl
      have r2 := HR.out.c 2 rfl
      have r3 := HR.out.c 3 rfl
      have f0 := HR.out.f 0
      have f1 := HR.out.f 1
      have f2 := HR.out.f 2
      have f3 := HR.out.f 3
      cases ok with
      | false =>
        have HF := Lib.hid HK.out
        go_wp2_with fail
        refine bodyPost_ret (v := .tuple #[.agg #[.int .i64 0, .int .i64 0, .int .u8 0, .int .u8 0], .bool false]) (by simp [results, Try.results60, go_sem, r0, r1, r2, r3]) rfl ?_
        refine ⟨by rw [HN.out HF.out, HF.out], ?_⟩
        exact
          (((HB.out.setCell (p := ⟨w.heap.size + 1, 0, none⟩) (Nat.le_succ _) _).setCell (p := ⟨w.heap.size + 1, 1, none⟩) (Nat.le_succ _) _).setCell (p := ⟨w.heap.size + 1, 2, none⟩) (Nat.le_succ _) _).setCell (p := ⟨w.heap.size + 1, 3, none⟩) (Nat.le_succ _) _
      | true =>
        have HF := Lib.hid HK.out
        have k0 := HG.out.c 0 rfl
        have k1 := HG.out.c 1 rfl
        have k2 := HG.out.c 2 rfl
        have k3 := HG.out.c 3 rfl
        go_wp2_with fail
        refine bodyPost_ret (v := .tuple #[.agg #[.int .i64 x, .int .i64 y, .int .u8 (m1 : Nat), .int .u8 (m2 : Nat)], .bool true]) (by simp [results, Try.results60, go_sem, r0, r1, r2, r3]) rfl ?_
        refine ⟨by rw [HY.out HF.out, HF.out], ?_⟩
        exact
          (((HB.out.setCell (p := ⟨w.heap.size + 1, 0, none⟩) (Nat.le_succ _) _).setCell (p := ⟨w.heap.size + 1, 1, none⟩) (Nat.le_succ _) _).setCell (p := ⟨w.heap.size + 1, 2, none⟩) (Nat.le_succ _) _).setCell (p := ⟨w.heap.size + 1, 3, none⟩) (Nat.le_succ _) _
theorem implGroupOfO (x y : Int) (b1 b2 : Nat) (v1 v2 : Value) (L1 L2 : List Int) (w : World) (h1 : L1.length ≤ 4194304) (h2 : L2.length ≤ 4194304) (o1 : OwnI b1 w v1 L1) (o2 : OwnI b2 w v2 L2) :
    Calls Try.prog 60 #[.agg #[.int .i64 x, .int .i64 y, v1, v2]] w fun e w' => e = .returned (.tuple #[gV x y L1 L2, .bool (cfgOk x y L1 L2)]) ∧ Below w.heap.size w w' := by
  obtain ⟨a1, c1, rfl, _, _, t1, _⟩ := o1.form
  obtain ⟨a2, c2, rfl, _, _, t2, _⟩ := o2.form
  exact implGroupOf x y a1 c1 L1 a2 c2 L2 w h1 h2 t1 t2
set_option maxRecDepth 100000 in
theorem implIsValidConfig (x y : Int) (b1 b2 : Nat) (v1 v2 : Value) (L1 L2 : List Int) (w : World) (h1 : L1.length ≤ 4194304) (h2 : L2.length ≤ 4194304) (o1 : OwnI b1 w v1 L1) (o2 : OwnI b2 w v2 L2) :
    Calls Try.prog 41 #[.agg #[.int .i64 x, .int .i64 y, v1, v2]] w fun e w' => e = .returned (.bool (cfgOk x y L1 L2)) ∧ Below w.heap.size w w' := by
  obtain ⟨W, hW⟩ : ∃ W, W = w.alloc (.cells #[.int .i64 x, .int .i64 y, v1, v2] 26) := ⟨_, rfl⟩
  have hB : Below w.heap.size w W := by rw [hW]; exact (Below.refl _ _).alloc (Nat.le_refl _) _
  have HC := Lib.hid (show BoxC W w.heap.size 26 #[.int .i64 x, .int .i64 y, v1, v2] by rw [hW]; exact BoxC.new _ _ _)
  have j1 := implGroupOfO x y b1 b2 v1 v2 L1 L2 W h1 h2 (o1.later hB) (o2.later hB)
  have HB := Lib.hid hB
  have HW := Lib.hid hW
  obtain ⟨y1, q1, rfl⟩ := o1.shape
  obtain ⟨y2, q2, rfl⟩ := o2.shape
  clear hB hW o1 o2
  have HY := Lib.hid (fun h => gV_yes (x := x) (y := y) (L1 := L1) (L2 := L2) h)
  have HN := Lib.hid (fun h => gV_no (x := x) (y := y) (L1 := L1) (L2 := L2) h)
  cases e1 : cfgOk x y L1 L2 with
  | false =>
    rw [e1, HN.out e1] at j1
    have J1 := Lib.hid j1
    clear e1 j1
    go_enter Try.func41, Try.ntmps41
    go_wp2_with fail
    rw [← HW.out]
    have x0 := HC.out.c 0 rfl
    have x1 := HC.out.c 1 rfl
    have x2 := HC.out.c 2 rfl
    have x3 := HC.out.c 3 rfl
    go_wp2_with fail
    refine J1.out.mono ?_
    rintro e w1 ⟨rfl, hb⟩
    replace HB := Lib.hid (HB.out.trans (hb.mono HB.out.size))
    clear hb HW J1 HC x0 x1 x2 x3
    go_wp2_with fail
    go_ret
    exact ⟨rfl, HB.out.alloc HB.out.size _⟩
  | true =>
    rw [e1, HY.out e1] at j1
    have J1 := Lib.hid j1
    clear e1 j1
    go_enter Try.func41, Try.ntmps41
    go_wp2_with fail
    rw [← HW.out]
    have x0 := HC.out.c 0 rfl
    have x1 := HC.out.c 1 rfl
    have x2 := HC.out.c 2 rfl
    have x3 := HC.out.c 3 rfl
    go_wp2_with fail
    refine J1.out.mono ?_
    rintro e w1 ⟨rfl, hb⟩
    replace HB := Lib.hid (HB.out.trans (hb.mono HB.out.size))
    clear hb HW J1 HC x0 x1 x2 x3
    go_wp2_with fail
    go_ret
    exact ⟨rfl, HB.out.alloc HB.out.size _⟩
end Go.Proofs.Ytgjebjoaemeeoaa.kit
