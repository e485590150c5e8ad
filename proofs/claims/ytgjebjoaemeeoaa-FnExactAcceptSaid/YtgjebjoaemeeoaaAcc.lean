/-
  Acceptors: an acceptor of the law's that came in; the laws' helpers that copy, compare, mark and check acceptors.
-/
import Derived.Test.YtgjebjoaemeeoaaConf
import Derived.Lib.SmallJoins
namespace Go.Proofs.Ytgjebjoaemeeoaa.kit
open Go.ChangeShapes Go.WideShapes Go.ChangeAt Go.RowKit Go.Deep
set_option linter.unusedVariables false

section
variable {H : Type} {enc : TypeId × Value → H} {w : World} {base : Nat} {spare : Nat → Bool} {held : Bool}
set_option maxRecDepth 100000 in
/-- an Acceptor of the law's, handed in -/
theorem open_acceptor {r : Reach} {b0 : Nat} {v : Value} {d : DataW H} {p : List MemPlace} (hv : Value.okWide Try.prog w r b0 41 v) (h : DataW.Trod enc Try.prog w base spare held 41 v d p) (hlt : ∀ x ∈ p, x.block < w.heap.size) :
    ∃ (x y s t : Int) (a1 : Option Addr) (c1 : Nat) (L1 : List Int) (a2 : Option Addr) (c2 : Nat) (L2 : List Int), v = .agg #[.int .i64 x, .int .i64 y, .int .i64 s, .int .i64 t, .slice a1 L1.length c1, .slice a2 L2.length c2] ∧ At w a1 L1 ∧ At w a2 L2 ∧ L1.length ≤ maxLen ∧ L2.length ≤ maxLen := by
  obtain ⟨cs, rfl, hsz⟩ := okWide_struct Try.underlying41 hv
  obtain ⟨fuel, hf⟩ := h
  have e : (Value.agg cs).cells.toList = cs.toList := by simp [Value.cells]
  rw [e] at hf
  obtain ⟨y0, y1, y2, m, hx, hl, h0, h1, h2⟩ := trod_struct3 Try.underlying41 hf
  have ki : Try.prog.cellsOf 3 = 1 := by kernel_rfl
  have km : Try.prog.cellsOf 39 = 4 := by kernel_rfl
  have ks : Try.prog.cellsOf 41 = 6 := by kernel_rfl
  have kI : Try.prog.cellsOf 24 = 1 := by kernel_rfl
  rw [ks] at hl
  obtain ⟨cl⟩ := cs
  simp only at hl h0 h1 h2
  match cl, hl with
  | [c0, c1, c2, c3, c4, c5], _ =>
    simp only [ki, km, List.drop_zero, List.take_succ_cons, List.take_zero, List.drop_succ_cons] at h0 h1 h2
    obtain ⟨x, e0, _⟩ := DataW.trod_int Try.underlying3 h0
    obtain ⟨y, e1, _⟩ := DataW.trod_int Try.underlying3 h1
    simp only [List.cons.injEq, and_true] at e0 e1
    subst e0 e1
    obtain ⟨z0, z1, z2, z3, m2, hx2, hl2, g0, g1, g2, g3⟩ := Go.Joins.trod_struct4 Try.underlying39 h2
    simp only [ki, kI, List.drop_zero, List.take_succ_cons, List.take_zero, List.drop_succ_cons] at g0 g1 g2 g3
    obtain ⟨s, e2, _⟩ := DataW.trod_int Try.underlying3 g0
    obtain ⟨t, e3, _⟩ := DataW.trod_int Try.underlying3 g1
    simp only [List.cons.injEq, and_true] at e2 e3
    subst e2 e3
    obtain ⟨a1, k1, L1, rfl, hA, hm1, _⟩ := open_intS g2
    obtain ⟨a2, k2, L2, rfl, hB, hm2, _⟩ := open_intS g3
    exact ⟨x, y, s, t, a1, k1, L1, a2, k2, L2, rfl, hA, hB, hm1, hm2⟩
end
set_option maxRecDepth 100000 in
theorem szAcceptor (x y s t : Int) (a1 : Option Addr) (n1 c1 : Nat) (a2 : Option Addr) (n2 c2 : Nat) (k : Int) (w : World) (h1 : n1 ≤ 9223372036854775807) (h2 : n2 ≤ 9223372036854775807) (hk0 : 0 ≤ k) (hk : k ≤ 1048576) :
    Calls Try.prog 19 #[.agg #[.int .i64 x, .int .i64 y, .int .i64 s, .int .i64 t, .slice a1 n1 c1, .slice a2 n2 c2], .int .i64 k] w fun e w' => e = .returned (.int .i64 (left k n1 n2)) ∧ Below w.heap.size w w' := by
  have hB : Below w.heap.size w (w.alloc (.cells #[.int .i64 x, .int .i64 y, .int .i64 s, .int .i64 t, .slice a1 n1 c1, .slice a2 n2 c2] 41)) := (Below.refl _ _).alloc (Nat.le_refl _) _
  have j := szConfig s t a1 n1 c1 a2 n2 c2 k (w.alloc (.cells #[.int .i64 x, .int .i64 y, .int .i64 s, .int .i64 t, .slice a1 n1 c1, .slice a2 n2 c2] 41)) h1 h2 hk0 hk
  have HB := Lib.hid hB
  by_cases hl : left k n1 n2 < 0
  · have e : left k n1 n2 = -1 := by
      unfold left at hl ⊢
      split
      · rename_i h; rw [if_pos h] at hl; omega
      · rfl
    rw [e] at j ⊢
    clear hl e hB
    go_enter Try.func19, Try.ntmps19
    go_wp2_with fail
    refine j.mono ?_
    rintro e w1 ⟨rfl, hb⟩
    go_wp2_with fail
    go_ret
    exact ⟨rfl, HB.out.trans (hb.mono HB.out.size)⟩
  · have g0 : decide (left k n1 n2 < 0) = false := decide_eq_false hl
    generalize left k n1 n2 = z at *
    clear hl hB
    go_enter Try.func19, Try.ntmps19
    go_wp2_with fail
    refine j.mono ?_
    rintro e w1 ⟨rfl, hb⟩
    go_wp2_with fail
    go_ret
    exact ⟨rfl, HB.out.trans (hb.mono HB.out.size)⟩
set_option maxRecDepth 100000 in
theorem eqAcceptorO (x1 y1 s1 t1 : Int) (b1 b2 : Nat) (v1 v2 : Value) (L1 : List Int) (L2 : List Int) (x2 y2 s2 t2 : Int) (b3 b4 : Nat) (v3 v4 : Value) (M1 : List Int) (M2 : List Int) (w : World) (h1 : L1.length ≤ 4194304) (h2 : L2.length ≤ 4194304) (o1 : OwnI b1 w v1 L1) (o2 : OwnI b2 w v2 L2)
    (k1 : M1.length ≤ 4194304) (k2 : M2.length ≤ 4194304) (o3 : OwnI b3 w v3 M1) (o4 : OwnI b4 w v4 M2) :
    Calls Try.prog 21 #[.agg #[.int .i64 x1, .int .i64 y1, .int .i64 s1, .int .i64 t1, v1, v2], .agg #[.int .i64 x2, .int .i64 y2, .int .i64 s2, .int .i64 t2, v3, v4]] w fun e w' => e = .returned (.bool (decide (x1 = x2 ∧ y1 = y2 ∧ s1 = s2 ∧ t1 = t2 ∧ L1 = M1 ∧ L2 = M2))) ∧ Below w.heap.size w w' := by
  have hB : Below w.heap.size w ((w.alloc (.cells #[.int .i64 x1, .int .i64 y1, .int .i64 s1, .int .i64 t1, v1, v2] 28)).alloc (.cells #[.int .i64 x2, .int .i64 y2, .int .i64 s2, .int .i64 t2, v3, v4] 28)) := by go_grown
  have j := eqConfigO s1 t1 b1 b2 v1 v2 L1 L2 s2 t2 b3 b4 v3 v4 M1 M2 _ h1 h2 (o1.later hB) (o2.later hB) k1 k2 (o3.later hB) (o4.later hB)
  obtain ⟨a1, c1, rfl⟩ := o1.shape
  obtain ⟨a2, c2, rfl⟩ := o2.shape
  obtain ⟨a3, c3, rfl⟩ := o3.shape
  obtain ⟨a4, c4, rfl⟩ := o4.shape
  have HB := Lib.hid hB
  clear o1 o2 o3 o4 hB
  by_cases e1 : x1 = x2
  · have g1 : (x1 != x2) = false := by rw [e1]; simp
    by_cases e2 : y1 = y2
    · have g2 : (y1 != y2) = false := by rw [e2]; simp
      have HE := Lib.hid (show decide (x1 = x2 ∧ y1 = y2 ∧ s1 = s2 ∧ t1 = t2 ∧ L1 = M1 ∧ L2 = M2) = decide (s1 = s2 ∧ t1 = t2 ∧ L1 = M1 ∧ L2 = M2) by rw [e1, e2]; simp)
      generalize decide (s1 = s2 ∧ t1 = t2 ∧ L1 = M1 ∧ L2 = M2) = q at *
      clear e1 e2
      go_enter Try.func21, Try.ntmps21
      go_wp2_with fail
      refine j.mono ?_
      rintro e w1 ⟨rfl, hb⟩
      cases q
      · go_wp2_with fail
        go_ret
        exact ⟨by rw [HE.out]; rfl, HB.out.trans (hb.mono HB.out.size)⟩
      · go_wp2_with fail
        go_ret
        exact ⟨by rw [HE.out]; rfl, HB.out.trans (hb.mono HB.out.size)⟩
    · have g2 : (y1 != y2) = true := by rw [bne_iff_ne]; exact e2
      have HE := Lib.hid (show decide (x1 = x2 ∧ y1 = y2 ∧ s1 = s2 ∧ t1 = t2 ∧ L1 = M1 ∧ L2 = M2) = false from decide_eq_false (fun h => e2 h.2.1))
      clear e1 e2 j
      go_enter Try.func21, Try.ntmps21
      go_wp2_with fail
      go_ret
      exact ⟨by rw [HE.out]; rfl, HB.out⟩
  · have g1 : (x1 != x2) = true := by rw [bne_iff_ne]; exact e1
    have HE := Lib.hid (show decide (x1 = x2 ∧ y1 = y2 ∧ s1 = s2 ∧ t1 = t2 ∧ L1 = M1 ∧ L2 = M2) = false from decide_eq_false (fun h => e1 h.1))
    clear e1 j
    go_enter Try.func21, Try.ntmps21
    go_wp2_with fail
    go_ret
    exact ⟨by rw [HE.out]; rfl, HB.out⟩
set_option maxRecDepth 100000 in
theorem markAcceptor (x y s t : Int) (b1 b2 : Nat) (v1 v2 : Value) (L1 : List Int) (L2 : List Int) (w : World) (h1 : L1.length ≤ 4194304) (h2 : L2.length ≤ 4194304) (o1 : OwnI b1 w v1 L1) (o2 : OwnI b2 w v2 L2) (hap : Apart v1 v2) (k : Int) (hk : k = 1) :
    Calls Try.prog 22 #[.agg #[.int .i64 x, .int .i64 y, .int .i64 s, .int .i64 t, v1, v2], .int .i64 k] w fun e w' => e = .returned (.int .i64 (1 + (L1.length : Int) + (L2.length : Int))) ∧ OwnI b1 w' v1 (marks 1 L1.length) ∧ OwnI b2 w' v2 (marks (1 + (L1.length : Int)) L2.length) ∧
      ∃ wa wb, Below w.heap.size w wa ∧ wa.grownBy wb v1.ownBlock ∧ wb.grownBy w' v2.ownBlock := by
  subst hk
  have hB : Below w.heap.size w (w.alloc (.cells #[.int .i64 x, .int .i64 y, .int .i64 s, .int .i64 t, v1, v2] 28)) := (Below.refl _ _).alloc (Nat.le_refl _) _
  have j := markConfig s t b1 b2 v1 v2 L1 L2 _ h1 h2 (o1.later hB) (o2.later hB) hap 1 rfl
  obtain ⟨a1, c1, rfl⟩ := o1.shape
  obtain ⟨a2, c2, rfl⟩ := o2.shape
  have HB := Lib.hid hB
  clear o1 o2 hB hap
  go_enter Try.func22, Try.ntmps22
  go_wp2_with fail
  refine j.mono ?_
  rintro e w1 ⟨rfl, ho1, ho2, wa, wb, hA, hg1, hg2⟩
  have H := Lib.hid (And.intro ho1 (And.intro ho2 (And.intro (HB.out.trans (hA.mono HB.out.size)) (And.intro hg1 hg2))))
  clear ho1 ho2 hA hg1 hg2
  go_wp2_with fail
  go_ret
  exact ⟨rfl, H.out.1, H.out.2.1, wa, wb, H.out.2.2.1, H.out.2.2.2.1, H.out.2.2.2.2⟩
set_option maxRecDepth 100000 in
theorem heldAcceptor (x y s t : Int) (b1 b2 : Nat) (v1 v2 : Value) (n1 n2 : Nat) (w : World) (h1 : n1 ≤ 4194304) (h2 : n2 ≤ 4194304) (o1 : OwnI b1 w v1 (marks 1 n1)) (o2 : OwnI b2 w v2 (marks (1 + (n1 : Int)) n2)) (k : Int) (hk : k = 1) :
    Calls Try.prog 23 #[.agg #[.int .i64 x, .int .i64 y, .int .i64 s, .int .i64 t, v1, v2], .int .i64 k] w fun e w' => e = .returned (.int .i64 (1 + (n1 : Int) + (n2 : Int))) ∧ Below w.heap.size w w' := by
  subst hk
  have hB : Below w.heap.size w (w.alloc (.cells #[.int .i64 x, .int .i64 y, .int .i64 s, .int .i64 t, v1, v2] 28)) := (Below.refl _ _).alloc (Nat.le_refl _) _
  have j := heldConfig s t b1 b2 v1 v2 n1 n2 _ h1 h2 (o1.later hB) (o2.later hB) 1 rfl
  obtain ⟨a1, c1, rfl⟩ := o1.shape
  obtain ⟨a2, c2, rfl⟩ := o2.shape
  have HB := Lib.hid hB
  have g0 : decide (1 + (n1 : Int) + (n2 : Int) < 0) = false := by simp; omega
  clear o1 o2 hB
  go_enter Try.func23, Try.ntmps23
  go_wp2_with fail
  refine j.mono ?_
  rintro e w1 ⟨rfl, hb⟩
  go_wp2_with fail
  go_ret
  exact ⟨rfl, HB.out.trans (hb.mono HB.out.size)⟩
set_option maxRecDepth 100000 in
set_option maxHeartbeats 2000000 in
theorem toAcceptor (x y s t : Int) (a1 : Option Addr) (c1 : Nat) (L1 : List Int) (a2 : Option Addr) (c2 : Nat) (L2 : List Int) (w : World) (h1 : L1.length ≤ 4194304) (h2 : L2.length ≤ 4194304) (ha1 : At w a1 L1) (ha2 : At w a2 L2) :
    Calls Try.prog 20 #[.agg #[.int .i64 x, .int .i64 y, .int .i64 s, .int .i64 t, .slice a1 L1.length c1, .slice a2 L2.length c2]] w fun e w' => ∃ v1 v2, e = .returned (.agg #[.int .i64 x, .int .i64 y, .int .i64 s, .int .i64 t, v1, v2]) ∧ OwnI w.heap.size w' v1 L1 ∧ OwnI w.heap.size w' v2 L2 ∧ Below w.heap.size w w' ∧ Apart v1 v2 := by
  have HA1 := Lib.hid ha1
  have HA2 := Lib.hid ha2
  clear ha1 ha2
  go_enter Try.func20, Try.ntmps20
  go_wp2_with fail
  have hB0 : Below w.heap.size w (((w.alloc (.cells #[.int .i64 x, .int .i64 y, .int .i64 s, .int .i64 t, .slice a1 L1.length c1, .slice a2 L2.length c2] 41)).alloc (.cells #[.int .i64 0, .int .i64 0, .int .i64 0, .int .i64 0, .slice none 0 0, .slice none 0 0] 28)).alloc (.cells #[.int .i64 x, .int .i64 y, .int .i64 0, .int .i64 0, .slice none 0 0, .slice none 0 0] 28)) := by go_grown
  refine (toConfig s t a1 c1 L1 a2 c2 L2 _ h1 h2 (HA1.out.later hB0) (HA2.out.later hB0)).mono ?_
  rintro e w1 ⟨v1, v2, rfl, ho1, ho2, hb1, hap⟩
  obtain ⟨y1, e1, rfl⟩ := ho1.shape
  obtain ⟨y2, e2, rfl⟩ := ho2.shape
  have HAP := Lib.hid hap
  clear hap
  have hA1 : Below w.heap.size w w1 := below3 hb1 (by simp; omega)
  have hz1 := hb1.size
  simp only [World.size_alloc] at hz1
  have R := Lib.hid (show BoxC w1 (w.heap.size + 1) 28 #[.int .i64 0, .int .i64 0, .int .i64 0, .int .i64 0, .slice none 0 0, .slice none 0 0] by
    have h := (BoxC.new (w.alloc (.cells #[.int .i64 x, .int .i64 y, .int .i64 s, .int .i64 t, .slice a1 L1.length c1, .slice a2 L2.length c2] 41)) 28 #[.int .i64 0, .int .i64 0, .int .i64 0, .int .i64 0, .slice none 0 0, .slice none 0 0]).later ((Below.refl _ _).alloc (Nat.le_refl _) (.cells #[.int .i64 x, .int .i64 y, .int .i64 0, .int .i64 0, .slice none 0 0, .slice none 0 0] 28))
    rw [World.size_alloc] at h
    exact h.later hb1)
  have S := Lib.hid (show BoxC w1 (w.heap.size + 1 + 1) 28 #[.int .i64 x, .int .i64 y, .int .i64 0, .int .i64 0, .slice none 0 0, .slice none 0 0] by
    have h := BoxC.new ((w.alloc (.cells #[.int .i64 x, .int .i64 y, .int .i64 s, .int .i64 t, .slice a1 L1.length c1, .slice a2 L2.length c2] 41)).alloc (.cells #[.int .i64 0, .int .i64 0, .int .i64 0, .int .i64 0, .slice none 0 0, .slice none 0 0] 28)) 28 #[.int .i64 x, .int .i64 y, .int .i64 0, .int .i64 0, .slice none 0 0, .slice none 0 0]
    rw [World.size_alloc, World.size_alloc] at h
    exact h.later hb1)
  have r0 := R.out.c 0 rfl
  have r1 := R.out.c 1 rfl
  have r2 := R.out.c 2 rfl
  have r3 := R.out.c 3 rfl
  have r4 := R.out.c 4 rfl
  have r5 := R.out.c 5 rfl
  have f1 := R.out.f
  have s0 := S.out.c 0 rfl
  have s1 := S.out.c 1 rfl
  have s2 := S.out.c 2 rfl
  have s3 := S.out.c 3 rfl
  have s4 := S.out.c 4 rfl
  have s5 := S.out.c 5 rfl
  have f0 := S.out.f
  have HO1 := Lib.hid ho1
  have HO2 := Lib.hid ho2
  have HA := Lib.hid hA1
  clear hb1 ho1 ho2 hA1 hB0 R S
  go_wp2_with fail
  refine bodyPost_ret (v := .agg #[.int .i64 x, .int .i64 y, .int .i64 s, .int .i64 t, .slice y1 L1.length e1, .slice y2 L2.length e2]) (by simp [results, Try.results20, go_sem, r0, r1, r2, r3, r4, r5]) rfl ⟨_, _, rfl, ?_, ?_, ?_, HAP.out⟩
  · exact ((((((((((HO1.out.setBelow (a := ⟨w.heap.size + 1 + 1, 2, none⟩) (by simp) _).setBelow (a := ⟨w.heap.size + 1 + 1, 3, none⟩) (by simp) _).setBelow (a := ⟨w.heap.size + 1 + 1, 4, none⟩) (by simp) _).setBelow (a := ⟨w.heap.size + 1 + 1, 5, none⟩) (by simp) _).setBelow (a := ⟨w.heap.size + 1, 0, none⟩) (by simp) _).setBelow (a := ⟨w.heap.size + 1, 1, none⟩) (by simp) _).setBelow (a := ⟨w.heap.size + 1, 2, none⟩) (by simp) _).setBelow (a := ⟨w.heap.size + 1, 3, none⟩) (by simp) _).setBelow (a := ⟨w.heap.size + 1, 4, none⟩) (by simp) _).setBelow (a := ⟨w.heap.size + 1, 5, none⟩) (by simp) _).mono (by simp; omega)
  · exact ((((((((((HO2.out.setBelow (a := ⟨w.heap.size + 1 + 1, 2, none⟩) (by simp) _).setBelow (a := ⟨w.heap.size + 1 + 1, 3, none⟩) (by simp) _).setBelow (a := ⟨w.heap.size + 1 + 1, 4, none⟩) (by simp) _).setBelow (a := ⟨w.heap.size + 1 + 1, 5, none⟩) (by simp) _).setBelow (a := ⟨w.heap.size + 1, 0, none⟩) (by simp) _).setBelow (a := ⟨w.heap.size + 1, 1, none⟩) (by simp) _).setBelow (a := ⟨w.heap.size + 1, 2, none⟩) (by simp) _).setBelow (a := ⟨w.heap.size + 1, 3, none⟩) (by simp) _).setBelow (a := ⟨w.heap.size + 1, 4, none⟩) (by simp) _).setBelow (a := ⟨w.heap.size + 1, 5, none⟩) (by simp) _).mono (by simp; omega)
  · have q2 : w.heap.size ≤ w.heap.size + 1 + 1 := by omega
    have q1 : w.heap.size ≤ w.heap.size + 1 := by omega
    exact (((((((((HA.out.setCell (p := ⟨w.heap.size + 1 + 1, 2, none⟩) q2 _).setCell (p := ⟨w.heap.size + 1 + 1, 3, none⟩) q2 _).setCell (p := ⟨w.heap.size + 1 + 1, 4, none⟩) q2 _).setCell (p := ⟨w.heap.size + 1 + 1, 5, none⟩) q2 _).setCell (p := ⟨w.heap.size + 1, 0, none⟩) q1 _).setCell (p := ⟨w.heap.size + 1, 1, none⟩) q1 _).setCell (p := ⟨w.heap.size + 1, 2, none⟩) q1 _).setCell (p := ⟨w.heap.size + 1, 3, none⟩) q1 _).setCell (p := ⟨w.heap.size + 1, 4, none⟩) q1 _).setCell (p := ⟨w.heap.size + 1, 5, none⟩) q1 _
end Go.Proofs.Ytgjebjoaemeeoaa.kit
