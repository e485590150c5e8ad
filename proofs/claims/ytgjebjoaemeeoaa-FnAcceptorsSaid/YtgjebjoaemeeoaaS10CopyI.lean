/-
  Chapter 10: the program's copies of configurations and acceptors.
-/
import Derived.Test.YtgjebjoaemeeoaaS10CopyL
namespace Go.Proofs.Ytgjebjoaemeeoaa.kit
open Go.ChangeShapes Go.WideShapes Go.ChangeAt Go.RowKit
set_option linter.unusedVariables false
set_option linter.unusedSimpArgs false

set_option maxRecDepth 100000 in
set_option maxHeartbeats 2000000 in
theorem cloneR (v : Value) (l : List Int) (w : World) (hl : l.length ≤ 4194304) (hs : SrcI w.heap.size w v l) :
    Calls Try.prog 80 #[v] w fun e w' => ∃ v', e = .returned v' ∧ OwnI w.heap.size w' v' l ∧ Below w.heap.size w w' := by
  have hs' := hs
  rcases hs with ⟨rfl, rfl⟩ | ⟨x, c, rfl, hlt, hc⟩
  · clear hs'
    have hq := fun (W : World) => Lib.run_eql_slice_nil W 24 _ none 0 0 0 0 Try.underlying24
    go_enter Try.func80, Try.ntmps80
    go_wp2_with fail
    go_ret
    exact ⟨_, rfl, World.ownsRow_nil _ _ _ _, Below.refl _ _⟩
  · have HS := Lib.hid (hs'.below ((Below.refl w.heap.size w).alloc (Nat.le_refl _) (.cells #[] 3)) (Nat.le_refl _))
    have HN := Lib.hid (row_new w w.heap.size (Nat.le_refl _))
    clear hs' hc
    have hq := fun (W : World) => Lib.run_eql_slice_nil W 24 _ (some x) l.length c 0 0 Try.underlying24
    go_enter Try.func80, Try.ntmps80
    go_wp2_with (at_builtin; refine wpList_appI rfl _ _ rfl w.heap.size _ [] rfl HN.out w.heap.size _ l rfl HS.out (by simp; omega) (by simp) ?_; intro v' w1 hown' hb1 hg1)
    obtain ⟨y, q, rfl⟩ := hown'.shape
    go_wp2_with fail
    go_ret
    exact ⟨_, rfl, by simpa using hown', ((Below.refl w.heap.size w).alloc (Nat.le_refl _) _).trans hb1⟩
set_option maxRecDepth 100000 in
set_option maxHeartbeats 8000000 in
theorem copyConfigS (x y : Int) (v1 v2 : Value) (L1 L2 : List Int) (w : World) (h1 : L1.length ≤ 4194304) (h2 : L2.length ≤ 4194304) (o1 : SrcI w.heap.size w v1 L1) (o2 : SrcI w.heap.size w v2 L2) :
    Calls Try.prog 69 #[.agg #[.int .i64 x, .int .i64 y, v1, v2]] w fun e w' => ∃ u1 u2, e = .returned (.agg #[.int .i64 x, .int .i64 y, u1, u2]) ∧ OwnI w.heap.size w' u1 L1 ∧ OwnI w.heap.size w' u2 L2 ∧ Below w.heap.size w w' ∧ Apart u1 u2 := by
  have J1 := fun W (hW : Below w.heap.size w W) => Lib.hid (cloneR v1 L1 W h1 (src_later o1 (Nat.le_refl _) hW))
  have J2 := fun W (hW : Below w.heap.size w W) => Lib.hid (cloneR v2 L2 W h2 (src_later o2 (Nat.le_refl _) hW))
  obtain ⟨y1, q1, rfl⟩ := src_shape o1
  obtain ⟨y2, q2, rfl⟩ := src_shape o2
  clear o1 o2
  go_enter Try.func69, Try.ntmps69
  go_wp2_with fail
  obtain ⟨W0, hW0⟩ : ∃ W, W = (w.alloc (.cells #[.int .i64 x, .int .i64 y, .slice y1 L1.length q1, .slice y2 L2.length q2] 26)).alloc (.cells #[.int .i64 0, .int .i64 0, .slice none 0 0, .slice none 0 0] 26) := ⟨_, rfl⟩
  rw [← hW0]
  have hA : Below w.heap.size w W0 := by rw [hW0]; exact ((Below.refl _ _).alloc (Nat.le_refl _) _).alloc (by simp) _
  have HC := Lib.hid (show BoxC W0 w.heap.size 26 #[.int .i64 x, .int .i64 y, .slice y1 L1.length q1, .slice y2 L2.length q2] by rw [hW0]; exact (BoxC.new _ _ _).later ((Below.refl _ _).alloc (Nat.le_refl _) _))
  have HR := Lib.hid (show BoxC W0 (w.heap.size + 1) 26 #[.int .i64 0, .int .i64 0, .slice none 0 0, .slice none 0 0] by
    rw [hW0]
    have h := BoxC.new (w.alloc (.cells #[.int .i64 x, .int .i64 y, .slice y1 L1.length q1, .slice y2 L2.length q2] 26)) 26 #[.int .i64 0, .int .i64 0, .slice none 0 0, .slice none 0 0]
    rwa [World.size_alloc] at h)
  have x2 := HC.out.c 2 rfl
  have x3 := HC.out.c 3 rfl
  have HA := Lib.hid hA
  clear hW0 hA
  have hW1 := (Below.refl W0.heap.size W0).drew
  have HA1 := Lib.hid HA.out.drew
  have HW1 := Lib.hid hW1
  go_region_with (first
    | (go_at_call 80; (with_reducible refine (J1 _ HA1.out).out.mono ?_); rintro e wa ⟨u1, rfl, ho1, hb1⟩
       obtain ⟨yu1, qu1, rfl⟩ := ho1.shape
       have hB0 := HW1.out.trans (hb1.mono HW1.out.size)
       have HC1 := Lib.hid (HC.out.later hB0)
       have HR1 := Lib.hid (HR.out.later hB0)
       have z3 := HC1.out.c 3 rfl
       have HA2 := Lib.hid (HA1.out.trans (hb1.mono HA1.out.size))
       have HO1 := Lib.hid ho1)
    | (go_at_call 80; (with_reducible refine (J2 _ HA2.out).out.mono ?_); rintro e wb ⟨u2, rfl, ho2, hb2⟩
       obtain ⟨yu2, qu2, rfl⟩ := ho2.shape
       have HAP := Lib.hid (apart_of HO1.out ho2 (Nat.le_refl _))
       have HC2 := Lib.hid (HC1.out.later hb2)
       have HR2 := Lib.hid (HR1.out.later hb2)
       have c0 := HC2.out.c 0 rfl
       have c1 := HC2.out.c 1 rfl
       have c2 := HC2.out.c 2 rfl
       have c3 := HC2.out.c 3 rfl
       have f2 := HC2.out.f 2
       have f3 := HC2.out.f 3
       have r0 := HR2.out.c 0 rfl
       have r1 := HR2.out.c 1 rfl
       have r2 := HR2.out.c 2 rfl
       have r3 := HR2.out.c 3 rfl
       have g0 := HR2.out.f 0
       have g1 := HR2.out.f 1
       have g2 := HR2.out.f 2
       have g3 := HR2.out.f 3
       have HO1' := Lib.hid (HO1.out.later hb2)
       have HA3 := Lib.hid (HA2.out.trans (hb2.mono HA2.out.size))
       have HO2 := Lib.hid ho2))
  all_goals
    clear x2 x3 z3 J1 J2 hB0 hb1 hb2 hW1
    go_wp2_with fail
    have HRP := Lib.hid ((HR2.out.keep (Nat.ne_of_gt (Nat.lt_succ_self _)) 2 (.slice yu1 L1.length qu1)).keep (Nat.ne_of_gt (Nat.lt_succ_self _)) 3 (.slice yu2 L2.length qu2))
    refine bodyPost_ret (v := .agg #[.int .i64 x, .int .i64 y, .slice yu1 L1.length qu1, .slice yu2 L2.length qu2]) (by simp [results, Try.results69, go_sem, r0, r1, r2, r3]) rfl ⟨_, _, rfl, ?_, ?_, ?_, HAP.out⟩
    · exact put4 (rowI_put (rowI_put (HO1'.out.mono HA1.out.size) HC2.out (by decide) 2 _) (HC2.out.put 2 _) (by decide) 3 _) HRP.out (by decide) _ _ _ _
    · exact put4 (rowI_put (rowI_put (HO2.out.mono HA2.out.size) HC2.out (by decide) 2 _) (HC2.out.put 2 _) (by decide) 3 _) HRP.out (by decide) _ _ _ _
    · exact (((((HA3.out.setCell (p := ⟨w.heap.size, 2, none⟩) (Nat.le_refl _) _).setCell (p := ⟨w.heap.size, 3, none⟩) (Nat.le_refl _) _).setCell (p := ⟨w.heap.size + 1, 0, none⟩) (Nat.le_succ _) _).setCell (p := ⟨w.heap.size + 1, 1, none⟩) (Nat.le_succ _) _).setCell (p := ⟨w.heap.size + 1, 2, none⟩) (Nat.le_succ _) _).setCell (p := ⟨w.heap.size + 1, 3, none⟩) (Nat.le_succ _) _
set_option maxRecDepth 100000 in
set_option maxHeartbeats 4000000 in
theorem copyAcceptor (x y s t : Int) (b1 b2 : Nat) (v1 v2 : Value) (L1 L2 : List Int) (w : World) (h1 : L1.length ≤ 4194304) (h2 : L2.length ≤ 4194304) (o1 : OwnI b1 w v1 L1) (o2 : OwnI b2 w v2 L2) :
    Calls Try.prog 54 #[.agg #[.int .i64 x, .int .i64 y, .int .i64 s, .int .i64 t, v1, v2]] w fun e w' => ∃ u1 u2, e = .returned (.agg #[.int .i64 x, .int .i64 y, .int .i64 s, .int .i64 t, u1, u2]) ∧ OwnI w.heap.size w' u1 L1 ∧ OwnI w.heap.size w' u2 L2 ∧ Below w.heap.size w w' ∧ Apart u1 u2 := by
  obtain ⟨W0, hW0⟩ : ∃ W, W = (w.alloc (.cells #[.int .i64 x, .int .i64 y, .int .i64 s, .int .i64 t, v1, v2] 28)).alloc (.cells #[.int .i64 0, .int .i64 0, .int .i64 0, .int .i64 0, .slice none 0 0, .slice none 0 0] 28) := ⟨_, rfl⟩
  have hA : Below w.heap.size w W0 := by rw [hW0]; exact ((Below.refl _ _).alloc (Nat.le_refl _) _).alloc (by simp) _
  have J := Lib.hid (copyConfigS s t v1 v2 L1 L2 W0 h1 h2 (src_later (src_own o1) (Nat.le_refl _) hA) (src_later (src_own o2) (Nat.le_refl _) hA))
  obtain ⟨y1, q1, rfl⟩ := o1.shape
  obtain ⟨y2, q2, rfl⟩ := o2.shape
  have HC := Lib.hid (show BoxC W0 w.heap.size 28 #[.int .i64 x, .int .i64 y, .int .i64 s, .int .i64 t, .slice y1 L1.length q1, .slice y2 L2.length q2] by rw [hW0]; exact (BoxC.new _ _ _).later ((Below.refl _ _).alloc (Nat.le_refl _) _))
  have HR := Lib.hid (show BoxC W0 (w.heap.size + 1) 28 #[.int .i64 0, .int .i64 0, .int .i64 0, .int .i64 0, .slice none 0 0, .slice none 0 0] by
    rw [hW0]
    have h := BoxC.new (w.alloc (.cells #[.int .i64 x, .int .i64 y, .int .i64 s, .int .i64 t, .slice y1 L1.length q1, .slice y2 L2.length q2] 28)) 28 #[.int .i64 0, .int .i64 0, .int .i64 0, .int .i64 0, .slice none 0 0, .slice none 0 0]
    rwa [World.size_alloc] at h)
  have HA := Lib.hid hA
  have HW := Lib.hid hW0
  clear o1 o2 hA hW0
  go_enter Try.func54, Try.ntmps54
  go_wp2_with fail
  rw [← HW.out]
  clear HW
  refine J.out.mono ?_
  rintro e w1 ⟨u1, u2, rfl, ho1, ho2, hb, hap⟩
  have HAP := Lib.hid hap
  obtain ⟨yu1, qu1, rfl⟩ := ho1.shape
  obtain ⟨yu2, qu2, rfl⟩ := ho2.shape
  have HC2 := Lib.hid (HC.out.later hb)
  have HR2 := Lib.hid (HR.out.later hb)
  have HO1 := Lib.hid (ho1.mono HA.out.size)
  have HO2 := Lib.hid (ho2.mono HA.out.size)
  have HB := Lib.hid (HA.out.trans (hb.mono HA.out.size))
  clear J HC HR HA ho1 ho2 hb hap
  have c0 := HC2.out.c 0 rfl
  have c1 := HC2.out.c 1 rfl
  have c2 := HC2.out.c 2 rfl
  have c3 := HC2.out.c 3 rfl
  have c4 := HC2.out.c 4 rfl
  have c5 := HC2.out.c 5 rfl
  have f2 := HC2.out.f 2
  have f3 := HC2.out.f 3
  have f4 := HC2.out.f 4
  have f5 := HC2.out.f 5
  have r0 := HR2.out.c 0 rfl
  have r1 := HR2.out.c 1 rfl
  have r2 := HR2.out.c 2 rfl
  have r3 := HR2.out.c 3 rfl
  have r4 := HR2.out.c 4 rfl
  have r5 := HR2.out.c 5 rfl
  have g0 := HR2.out.f 0
  have g1 := HR2.out.f 1
  have g2 := HR2.out.f 2
  have g3 := HR2.out.f 3
  have g4 := HR2.out.f 4
  have g5 := HR2.out.f 5
  go_wp2_with fail
  have HRP := Lib.hid ((((HR2.out.keep (Nat.ne_of_gt (Nat.lt_succ_self _)) 2 (.int .i64 s)).keep (Nat.ne_of_gt (Nat.lt_succ_self _)) 3 (.int .i64 t)).keep (Nat.ne_of_gt (Nat.lt_succ_self _)) 4 (.slice yu1 L1.length qu1)).keep (Nat.ne_of_gt (Nat.lt_succ_self _)) 5 (.slice yu2 L2.length qu2))
  refine bodyPost_ret (v := .agg #[.int .i64 x, .int .i64 y, .int .i64 s, .int .i64 t, .slice yu1 L1.length qu1, .slice yu2 L2.length qu2]) (by simp [results, Try.results54, go_sem, r0, r1, r2, r3, r4, r5]) rfl ⟨_, _, rfl, ?_, ?_, ?_, HAP.out⟩
  · exact put6 (rowI_put (rowI_put (rowI_put (rowI_put HO1.out HC2.out (by decide) 2 _) (HC2.out.put 2 _) (by decide) 3 _) ((HC2.out.put 2 _).put 3 _) (by decide) 4 _) (((HC2.out.put 2 _).put 3 _).put 4 _) (by decide) 5 _) HRP.out (by decide) _ _ _ _ _ _
  · exact put6 (rowI_put (rowI_put (rowI_put (rowI_put HO2.out HC2.out (by decide) 2 _) (HC2.out.put 2 _) (by decide) 3 _) ((HC2.out.put 2 _).put 3 _) (by decide) 4 _) (((HC2.out.put 2 _).put 3 _).put 4 _) (by decide) 5 _) HRP.out (by decide) _ _ _ _ _ _
  · exact below6 ((((HB.out.setCell (p := ⟨w.heap.size, 2, none⟩) (Nat.le_refl _) _).setCell (p := ⟨w.heap.size, 3, none⟩) (Nat.le_refl _) _).setCell (p := ⟨w.heap.size, 4, none⟩) (Nat.le_refl _) _).setCell (p := ⟨w.heap.size, 5, none⟩) (Nat.le_refl _) _) (Nat.le_succ _) _ _ _ _ _ _
end Go.Proofs.Ytgjebjoaemeeoaa.kit
