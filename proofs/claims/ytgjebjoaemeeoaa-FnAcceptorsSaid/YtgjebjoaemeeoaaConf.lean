/-
  Configurations: a configuration of the law's that came in; the laws' helpers that copy, compare, mark and check configurations.
-/
import Derived.Test.YtgjebjoaemeeoaaIntsB
import Derived.Test.YtgjebjoaemeeoaaStructs
import Derived.Deep.DeepCutAuto
import Derived.Handy
import Derived.OwnWalk
import Derived.Test.YtgjebjoaemeeoaaBoxC
namespace Go.Proofs.Ytgjebjoaemeeoaa.kit
open Go.ChangeShapes Go.WideShapes Go.ChangeAt Go.RowKit Go.Deep
set_option linter.unusedVariables false

/-- two rows of the call's own lie in blocks of their own -/
def Apart (v1 v2 : Value) : Prop := ∀ g, v1.ownBlock = some g → v2.ownBlock = some g → False
theorem Apart.symm {v1 v2 : Value} (h : Apart v1 v2) : Apart v2 v1 := fun g a b => h g b a
theorem apart_of {b1 b2 : Nat} {w1 w2 : World} {v1 v2 : Value} {l1 l2 : List Int} (h1 : OwnI b1 w1 v1 l1) (h2 : OwnI b2 w2 v2 l2) (h : w1.heap.size ≤ b2) : Apart v1 v2 := fun g e1 e2 => by
  have a := (h1.block g e1).2
  have b := (h2.block g e2).1
  omega
theorem apart_nil (v : Value) (l c : Nat) : Apart v (.slice none l c) := fun g _ e => by cases e
theorem nil_apart (v : Value) (l c : Nat) : Apart (.slice none l c) v := fun g e _ => by cases e
section
variable {H : Type} {enc : TypeId × Value → H} {w : World} {base : Nat} {spare : Nat → Bool} {held : Bool}
set_option maxRecDepth 100000 in
/-- a Config of the law's, handed in -/
theorem open_config {r : Reach} {b0 : Nat} {v : Value} {d : DataW H} {p : List MemPlace} (hv : Value.okWide Try.prog w r b0 39 v) (h : DataW.Trod enc Try.prog w base spare held 39 v d p) (hlt : ∀ x ∈ p, x.block < w.heap.size) :
    ∃ (x y : Int) (a1 : Option Addr) (c1 : Nat) (L1 : List Int) (a2 : Option Addr) (c2 : Nat) (L2 : List Int), v = .agg #[.int .i64 x, .int .i64 y, .slice a1 L1.length c1, .slice a2 L2.length c2] ∧ At w a1 L1 ∧ At w a2 L2 ∧ L1.length ≤ maxLen ∧ L2.length ≤ maxLen := by
  obtain ⟨cs, ys, n, rfl, hc, hy, hd, hp, hf⟩ := openFields Try.underlying39 (by kernel_rfl) (by kernel_rfl) hv h
  match cs, ys, hc, hy with
  | [c0, c1, c2, c3], [y0, y1, y2, y3], _, _ =>
    obtain ⟨x, e0, _⟩ := DataW.trod_int Try.underlying3 (hf 0 _ c0 rfl rfl)
    obtain ⟨y, e1, _⟩ := DataW.trod_int Try.underlying3 (hf 1 _ c1 rfl rfl)
    simp only [List.cons.injEq, and_true] at e0 e1
    subst e0 e1
    obtain ⟨a1, k1, L1, rfl, hA, hm1, _⟩ := open_intS (hf 2 _ c2 rfl rfl)
    obtain ⟨a2, k2, L2, rfl, hB, hm2, _⟩ := open_intS (hf 3 _ c3 rfl rfl)
    exact ⟨x, y, a1, k1, L1, a2, k2, L2, rfl, hA, hB, hm1, hm2⟩
end
set_option maxRecDepth 100000 in
theorem szConfig (x y : Int) (a1 : Option Addr) (n1 c1 : Nat) (a2 : Option Addr) (n2 c2 : Nat) (k : Int) (w : World) (h1 : n1 ≤ 9223372036854775807) (h2 : n2 ≤ 9223372036854775807) (hk0 : 0 ≤ k) (hk : k ≤ 1048576) :
    Calls Try.prog 24 #[.agg #[.int .i64 x, .int .i64 y, .slice a1 n1 c1, .slice a2 n2 c2], .int .i64 k] w fun e w' => e = .returned (.int .i64 (left k n1 n2)) ∧ Below w.heap.size w w' := by
  by_cases g1 : (n1 : Int) ≤ k
  · by_cases g2 : (n2 : Int) ≤ k - n1
    · have e : left k n1 n2 = k - n1 - n2 := by unfold left; rw [if_pos (by omega)]
      rw [e]
      have j1 := fun w => szIntS a1 n1 c1 k w h1 hk0 hk
      have j2 := fun w => szIntS a2 n2 c2 (k - n1) w h2 (by omega) (by omega)
      rw [if_pos g1] at j1
      rw [if_pos g2] at j2
      go_enter Try.func24, Try.ntmps24
      go_wp2_with fail
      refine (j1 _).mono ?_
      rintro e w1 ⟨rfl, rfl⟩
      go_wp2_with fail
      refine (j2 _).mono ?_
      rintro e w1 ⟨rfl, rfl⟩
      go_wp2_with fail
      go_ret
      exact ⟨rfl, by go_grown⟩
    · have e : left k n1 n2 = -1 := by unfold left; rw [if_neg (by omega)]
      rw [e]
      have j1 := fun w => szIntS a1 n1 c1 k w h1 hk0 hk
      have j2 := fun w => szIntS a2 n2 c2 (k - n1) w h2 (by omega) (by omega)
      rw [if_pos g1] at j1
      rw [if_neg g2] at j2
      go_enter Try.func24, Try.ntmps24
      go_wp2_with fail
      refine (j1 _).mono ?_
      rintro e w1 ⟨rfl, rfl⟩
      go_wp2_with fail
      refine (j2 _).mono ?_
      rintro e w1 ⟨rfl, rfl⟩
      go_wp2_with fail
      go_ret
      exact ⟨rfl, by go_grown⟩
  · have e : left k n1 n2 = -1 := by unfold left; rw [if_neg (by omega)]
    rw [e]
    have j1 := fun w => szIntS a1 n1 c1 k w h1 hk0 hk
    rw [if_neg g1] at j1
    go_enter Try.func24, Try.ntmps24
    go_wp2_with fail
    refine (j1 _).mono ?_
    rintro e w1 ⟨rfl, rfl⟩
    go_wp2_with fail
    go_ret
    exact ⟨rfl, by go_grown⟩
set_option maxRecDepth 100000 in
theorem eqConfig (x1 y1 : Int) (a1 : Option Addr) (c1 : Nat) (L1 : List Int) (a2 : Option Addr) (c2 : Nat) (L2 : List Int) (x2 y2 : Int) (b1 : Option Addr) (d1 : Nat) (M1 : List Int) (b2 : Option Addr) (d2 : Nat) (M2 : List Int) (w : World)
    (h1 : L1.length ≤ 4194304) (h2 : L2.length ≤ 4194304) (k1 : M1.length ≤ 4194304) (k2 : M2.length ≤ 4194304) (ha1 : At w a1 L1) (ha2 : At w a2 L2) (hb1 : At w b1 M1) (hb2 : At w b2 M2) :
    Calls Try.prog 26 #[.agg #[.int .i64 x1, .int .i64 y1, .slice a1 L1.length c1, .slice a2 L2.length c2], .agg #[.int .i64 x2, .int .i64 y2, .slice b1 M1.length d1, .slice b2 M2.length d2]] w fun e w' => e = .returned (.bool (decide (x1 = x2 ∧ y1 = y2 ∧ L1 = M1 ∧ L2 = M2))) ∧ Below w.heap.size w w' := by
  have j1 := fun W (hW : Below w.heap.size w W) => eqIntS_any a1 b1 c1 d1 L1 M1 W h1 k1 (ha1.later hW) (hb1.later hW)
  have j2 := fun W (hW : Below w.heap.size w W) => eqIntS_any a2 b2 c2 d2 L2 M2 W h2 k2 (ha2.later hW) (hb2.later hW)
  clear ha1 ha2 hb1 hb2
  have HB0 : Below w.heap.size w ((w.alloc (.cells #[.int .i64 x1, .int .i64 y1, .slice a1 L1.length c1, .slice a2 L2.length c2] 26)).alloc (.cells #[.int .i64 x2, .int .i64 y2, .slice b1 M1.length d1, .slice b2 M2.length d2] 26)) := by go_grown
  have HB := Lib.hid HB0
  have J1 := j1 _ HB0
  have J2 := Lib.hid (fun q => j2 _ (below_drewN HB0 q))
  clear HB0 j1 j2
  by_cases e1 : x1 = x2
  · have g1 : (x1 != x2) = false := by rw [e1]; simp
    by_cases e2 : y1 = y2
    · have g2 : (y1 != y2) = false := by rw [e2]; simp
      have HE := Lib.hid (show decide (x1 = x2 ∧ y1 = y2 ∧ L1 = M1 ∧ L2 = M2) = (decide (L1 = M1) && decide (L2 = M2)) by rw [e1, e2]; simp)
      generalize decide (L1 = M1) = p at *
      generalize decide (L2 = M2) = q at *
      clear e1 e2
      go_enter Try.func26, Try.ntmps26
      go_wp2_with fail
      refine J1.mono ?_
      rintro e w1 ⟨rfl, r, rfl⟩
      have J3 := Lib.hid (J2.out r)
      clear J1 J2
      cases p
      · go_wp2_with fail
        go_ret
        exact ⟨by rw [HE.out]; rfl, below_drewN HB.out r⟩
      · go_wp2_with fail
        refine J3.out.mono ?_
        rintro e w1 ⟨rfl, r2, rfl⟩
        cases q
        · go_wp2_with fail
          go_ret
          exact ⟨by rw [HE.out]; rfl, below_drewN HB.out _⟩
        · go_wp2_with fail
          go_ret
          exact ⟨by rw [HE.out]; rfl, below_drewN HB.out _⟩
    · have g2 : (y1 != y2) = true := by rw [bne_iff_ne]; exact e2
      have HE := Lib.hid (show decide (x1 = x2 ∧ y1 = y2 ∧ L1 = M1 ∧ L2 = M2) = false from decide_eq_false (fun h => e2 h.2.1))
      clear e1 e2 J1 J2
      go_enter Try.func26, Try.ntmps26
      go_wp2_with fail
      go_ret
      exact ⟨by rw [HE.out]; rfl, HB.out⟩
  · have g1 : (x1 != x2) = true := by rw [bne_iff_ne]; exact e1
    have HE := Lib.hid (show decide (x1 = x2 ∧ y1 = y2 ∧ L1 = M1 ∧ L2 = M2) = false from decide_eq_false (fun h => e1 h.1))
    clear e1 J1 J2
    go_enter Try.func26, Try.ntmps26
    go_wp2_with fail
    go_ret
    exact ⟨by rw [HE.out]; rfl, HB.out⟩
theorem eqConfigO (x1 y1 : Int) (b1 b2 : Nat) (v1 v2 : Value) (L1 : List Int) (L2 : List Int) (x2 y2 : Int) (b3 b4 : Nat) (v3 v4 : Value) (M1 : List Int) (M2 : List Int) (w : World) (h1 : L1.length ≤ 4194304) (h2 : L2.length ≤ 4194304) (o1 : OwnI b1 w v1 L1) (o2 : OwnI b2 w v2 L2)
    (k1 : M1.length ≤ 4194304) (k2 : M2.length ≤ 4194304) (o3 : OwnI b3 w v3 M1) (o4 : OwnI b4 w v4 M2) :
    Calls Try.prog 26 #[.agg #[.int .i64 x1, .int .i64 y1, v1, v2], .agg #[.int .i64 x2, .int .i64 y2, v3, v4]] w fun e w' => e = .returned (.bool (decide (x1 = x2 ∧ y1 = y2 ∧ L1 = M1 ∧ L2 = M2))) ∧ Below w.heap.size w w' := by
  obtain ⟨a1, c1, rfl, _, _, t1, _⟩ := o1.form
  obtain ⟨a2, c2, rfl, _, _, t2, _⟩ := o2.form
  obtain ⟨a3, c3, rfl, _, _, t3, _⟩ := o3.form
  obtain ⟨a4, c4, rfl, _, _, t4, _⟩ := o4.form
  exact eqConfig x1 y1 a1 c1 L1 a2 c2 L2 x2 y2 a3 c3 M1 a4 c4 M2 w h1 h2 k1 k2 t1 t2 t3 t4
set_option maxRecDepth 100000 in
theorem markConfig (x y : Int) (b1 b2 : Nat) (v1 v2 : Value) (L1 : List Int) (L2 : List Int) (w : World) (h1 : L1.length ≤ 4194304) (h2 : L2.length ≤ 4194304) (o1 : OwnI b1 w v1 L1) (o2 : OwnI b2 w v2 L2) (hap : Apart v1 v2) (k : Int) (hk : k = 1) :
    Calls Try.prog 27 #[.agg #[.int .i64 x, .int .i64 y, v1, v2], .int .i64 k] w fun e w' => e = .returned (.int .i64 (1 + (L1.length : Int) + (L2.length : Int))) ∧ OwnI b1 w' v1 (marks 1 L1.length) ∧ OwnI b2 w' v2 (marks (1 + (L1.length : Int)) L2.length) ∧
      ∃ wa wb, Below w.heap.size w wa ∧ wa.grownBy wb v1.ownBlock ∧ wb.grownBy w' v2.ownBlock := by
  subst hk
  have hlt1 := o1.block
  have hlt2 := o2.block
  have hB : Below w.heap.size w (w.alloc (.cells #[.int .i64 x, .int .i64 y, v1, v2] 26)) := (Below.refl _ _).alloc (Nat.le_refl _) _
  have j1 := markIntS_any b1 1 v1 L1 _ h1 (by omega) (by omega) (o1.later hB)
  have hs0 : ∀ W, (w.alloc (.cells #[.int .i64 x, .int .i64 y, v1, v2] 26)).grownBy W v1.ownBlock → W.cell? ⟨w.heap.size, 3, none⟩ = some v2 := fun W hg => by
    have h0 : (w.alloc (.cells #[.int .i64 x, .int .i64 y, v1, v2] 26)).cell? ⟨w.heap.size, 3, none⟩ = some v2 := by rw [World.cell?_alloc_at _ _ _ _ rfl]; rfl
    exact (World.cell?_of_block (a := ⟨w.heap.size, 3, none⟩) (hg.block w.heap.size (by simp) (fun e => Nat.lt_irrefl _ (hlt1 _ e.symm).2))).trans h0
  have j2 := fun W (hg : (w.alloc (.cells #[.int .i64 x, .int .i64 y, v1, v2] 26)).grownBy W v1.ownBlock) => markIntS_any b2 (1 + (L1.length : Int)) v2 L2 W h2 (by omega) (by omega) ((o2.later hB).marked hg (fun g a b => hap g a b))
  obtain ⟨x1, e1, rfl, _, _, _, _⟩ := o1.form
  obtain ⟨x2, e2, rfl, _, _, _, _⟩ := o2.form
  have HB := Lib.hid hB
  have HS := Lib.hid hs0
  have J2 := Lib.hid j2
  have HAP := Lib.hid hap
  clear o1 o2 hB hs0 j2 hap
  go_enter Try.func27, Try.ntmps27
  go_wp2_with fail
  refine j1.mono ?_
  rintro e wb ⟨rfl, ho1, hg1⟩
  have c1 := HS.out wb hg1
  have j2 := J2.out wb hg1
  have HG1 := Lib.hid hg1
  have HP1 := Lib.hid ho1
  clear hg1 ho1
  go_wp2_with fail
  refine j2.mono ?_
  rintro e wc ⟨rfl, ho2, hg2⟩
  have HG2 := Lib.hid hg2
  have HP2 := Lib.hid ho2
  clear hg2 ho2 c1
  go_wp2_with fail
  go_ret
  refine ⟨rfl, ?_, HP2.out, _, wb, HB.out, HG1.out, HG2.out⟩
  exact HP1.out.marked HG2.out (fun g a b => HAP.out g b a)
set_option maxRecDepth 100000 in
theorem heldConfig (x y : Int) (b1 b2 : Nat) (v1 v2 : Value) (n1 n2 : Nat) (w : World) (h1 : n1 ≤ 4194304) (h2 : n2 ≤ 4194304) (o1 : OwnI b1 w v1 (marks 1 n1)) (o2 : OwnI b2 w v2 (marks (1 + (n1 : Int)) n2)) (k : Int) (hk : k = 1) :
    Calls Try.prog 43 #[.agg #[.int .i64 x, .int .i64 y, v1, v2], .int .i64 k] w fun e w' => e = .returned (.int .i64 (1 + (n1 : Int) + (n2 : Int))) ∧ Below w.heap.size w w' := by
  subst hk
  have hB : Below w.heap.size w (w.alloc (.cells #[.int .i64 x, .int .i64 y, v1, v2] 26)) := (Below.refl _ _).alloc (Nat.le_refl _) _
  have j1 := heldIntS_any b1 1 n1 v1 _ h1 (by omega) (by omega) (o1.later hB)
  have j2 := heldIntS_any b2 (1 + (n1 : Int)) n2 v2 _ h2 (by omega) (by omega) (o2.later hB)
  obtain ⟨x1, e1, rfl, _, _, _, _⟩ := o1.form
  obtain ⟨x2, e2, rfl, _, _, _, _⟩ := o2.form
  have HB := Lib.hid hB
  clear o1 o2 hB
  go_enter Try.func43, Try.ntmps43
  go_wp2_with fail
  refine j1.mono ?_
  rintro e wb ⟨rfl, rfl⟩
  go_wp2_with fail
  refine j2.mono ?_
  rintro e wb ⟨rfl, rfl⟩
  go_wp2_with fail
  go_ret
  exact ⟨rfl, HB.out⟩
set_option maxRecDepth 100000 in
set_option maxHeartbeats 2000000 in
theorem toConfig (x y : Int) (a1 : Option Addr) (c1 : Nat) (L1 : List Int) (a2 : Option Addr) (c2 : Nat) (L2 : List Int) (w : World) (h1 : L1.length ≤ 4194304) (h2 : L2.length ≤ 4194304) (ha1 : At w a1 L1) (ha2 : At w a2 L2) :
    Calls Try.prog 25 #[.agg #[.int .i64 x, .int .i64 y, .slice a1 L1.length c1, .slice a2 L2.length c2]] w fun e w' => ∃ v1 v2, e = .returned (.agg #[.int .i64 x, .int .i64 y, v1, v2]) ∧ OwnI w.heap.size w' v1 L1 ∧ OwnI w.heap.size w' v2 L2 ∧ Below w.heap.size w w' ∧ Apart v1 v2 := by
  have HA1 := Lib.hid ha1
  have HA2 := Lib.hid ha2
  clear ha1 ha2
  go_enter Try.func25, Try.ntmps25
  go_wp2_with fail
  have hB0 : Below w.heap.size w (((w.alloc (.cells #[.int .i64 x, .int .i64 y, .slice a1 L1.length c1, .slice a2 L2.length c2] 39)).alloc (.cells #[.int .i64 0, .int .i64 0, .slice none 0 0, .slice none 0 0] 26)).alloc (.cells #[.int .i64 x, .int .i64 y, .slice none 0 0, .slice none 0 0] 26)) := by go_grown
  refine (toIntS_any a1 c1 L1 _ h1 (HA1.out.later hB0)).mono ?_
  rintro e w1 ⟨v1, rfl, ho1, hb1⟩
  obtain ⟨y1, e1, rfl⟩ := ho1.shape
  have hz1 := hb1.size
  have hA1 : Below w.heap.size w w1 := below3 hb1 (by simp; omega)
  have q0 : w1.cell? ⟨w.heap.size, 3, none⟩ = some (.slice a2 L2.length c2) := by rw [hb1.cell (p := ⟨w.heap.size, 3, none⟩) (by simp; omega)]; go_simp
  have R := Lib.hid (show BoxC w1 (w.heap.size + 1) 26 #[.int .i64 0, .int .i64 0, .slice none 0 0, .slice none 0 0] by
    have h := (BoxC.new (w.alloc (.cells #[.int .i64 x, .int .i64 y, .slice a1 L1.length c1, .slice a2 L2.length c2] 39)) 26 #[.int .i64 0, .int .i64 0, .slice none 0 0, .slice none 0 0]).later ((Below.refl _ _).alloc (Nat.le_refl _) (.cells #[.int .i64 x, .int .i64 y, .slice none 0 0, .slice none 0 0] 26))
    rw [World.size_alloc] at h
    exact h.later hb1)
  have S := Lib.hid (show BoxC w1 (w.heap.size + 1 + 1) 26 #[.int .i64 x, .int .i64 y, .slice none 0 0, .slice none 0 0] by
    have h := BoxC.new ((w.alloc (.cells #[.int .i64 x, .int .i64 y, .slice a1 L1.length c1, .slice a2 L2.length c2] 39)).alloc (.cells #[.int .i64 0, .int .i64 0, .slice none 0 0, .slice none 0 0] 26)) 26 #[.int .i64 x, .int .i64 y, .slice none 0 0, .slice none 0 0]
    rw [World.size_alloc, World.size_alloc] at h
    exact h.later hb1)
  have s2 := S.out.c 2 rfl
  have f2 := S.out.f 2
  have HO1 := Lib.hid ho1
  have HA := Lib.hid hA1
  simp only [World.size_alloc] at hz1
  clear hb1 ho1 hA1 hB0
  go_wp2_with fail
  have hW : Below w1.heap.size w1 w1 := Below.refl _ _
  obtain ⟨W, hW⟩ : ∃ W, W = w1.setCell ⟨w.heap.size + 1 + 1, 2, none⟩ (.slice y1 L1.length e1) := ⟨_, rfl⟩
  rw [← hW]
  have R2 := Lib.hid (show BoxC W (w.heap.size + 1) 26 #[.int .i64 0, .int .i64 0, .slice none 0 0, .slice none 0 0] by rw [hW]; exact R.out.keep (by omega) 2 _)
  have S2 := Lib.hid (show BoxC W (w.heap.size + 1 + 1) 26 #[.int .i64 x, .int .i64 y, .slice y1 L1.length e1, .slice none 0 0] by rw [hW]; exact S.out.put 2 _)
  have HAW := Lib.hid (show Below w.heap.size w W by rw [hW]; exact HA.out.setCell (p := ⟨w.heap.size + 1 + 1, 2, none⟩) (by show w.heap.size ≤ w.heap.size + 1 + 1; omega) _)
  have HOW := Lib.hid (show OwnI (w.heap.size + 1 + 1 + 1) W (.slice y1 L1.length e1) L1 by
    rw [hW]
    have h := HO1.out
    simp only [World.size_alloc] at h
    exact h.setBelow (a := ⟨w.heap.size + 1 + 1, 2, none⟩) (by show w.heap.size + 1 + 1 < _; omega) _)
  have hs1 : w1.heap.size = W.heap.size := by rw [hW, World.size_setCell]
  have HS1 := Lib.hid hs1
  rw [hs1] at hz1
  clear R S s2 f2 HO1 HA q0 hW hs1
  refine (toIntS_any a2 c2 L2 W h2 (HA2.out.later HAW.out)).mono ?_
  rintro e w2 ⟨v2, rfl, ho2, hb2⟩
  have HAP := Lib.hid (apart_of HOW.out ho2 (Nat.le_refl _))
  obtain ⟨y2, e2, rfl⟩ := ho2.shape
  have R3 := Lib.hid (R2.out.later hb2)
  have S3 := Lib.hid (S2.out.later hb2)
  have HB := Lib.hid (HAW.out.trans (hb2.mono HAW.out.size))
  have HP1 := Lib.hid (HOW.out.later hb2)
  have HP2 := Lib.hid ho2
  clear hb2 ho2 R2 S2 HAW HOW
  have r0 := R3.out.c 0 rfl
  have r1 := R3.out.c 1 rfl
  have r2 := R3.out.c 2 rfl
  have r3 := R3.out.c 3 rfl
  have f0 := R3.out.f 0
  have f1 := R3.out.f 1
  have f2 := R3.out.f 2
  have f3 := R3.out.f 3
  have s0 := S3.out.c 0 rfl
  have s1 := S3.out.c 1 rfl
  have s2 := S3.out.c 2 rfl
  have s3 := S3.out.c 3 rfl
  have g3 := S3.out.f 3
  go_wp2_with fail
  refine bodyPost_ret (v := .agg #[.int .i64 x, .int .i64 y, .slice y1 L1.length e1, .slice y2 L2.length e2]) (by simp [results, Try.results25, go_sem, r0, r1, r2, r3]) rfl ⟨_, _, rfl, ?_, ?_, ?_, HAP.out⟩
  · exact (((((HP1.out.setBelow (a := ⟨w.heap.size + 1 + 1, 3, none⟩) (by simp) _).setBelow (a := ⟨w.heap.size + 1, 0, none⟩) (by simp <;> omega) _).setBelow (a := ⟨w.heap.size + 1, 1, none⟩) (by simp <;> omega) _).setBelow (a := ⟨w.heap.size + 1, 2, none⟩) (by simp <;> omega) _).setBelow (a := ⟨w.heap.size + 1, 3, none⟩) (by simp <;> omega) _).mono (by omega)
  · exact (((((HP2.out.setBelow (a := ⟨w.heap.size + 1 + 1, 3, none⟩) (by show w.heap.size + 1 + 1 < _; omega) _).setBelow (a := ⟨w.heap.size + 1, 0, none⟩) (by show w.heap.size + 1 < _; omega) _).setBelow (a := ⟨w.heap.size + 1, 1, none⟩) (by show w.heap.size + 1 < _; omega) _).setBelow (a := ⟨w.heap.size + 1, 2, none⟩) (by show w.heap.size + 1 < _; omega) _).setBelow (a := ⟨w.heap.size + 1, 3, none⟩) (by show w.heap.size + 1 < _; omega) _).mono (by omega)
  · exact ((((HB.out.setCell (p := ⟨w.heap.size + 1 + 1, 3, none⟩) (by show w.heap.size ≤ w.heap.size + 1 + 1; omega) _).setCell (p := ⟨w.heap.size + 1, 0, none⟩) (by show w.heap.size ≤ w.heap.size + 1; omega) _).setCell (p := ⟨w.heap.size + 1, 1, none⟩) (by show w.heap.size ≤ w.heap.size + 1; omega) _).setCell (p := ⟨w.heap.size + 1, 2, none⟩) (by show w.heap.size ≤ w.heap.size + 1; omega) _).setCell (p := ⟨w.heap.size + 1, 3, none⟩) (by show w.heap.size ≤ w.heap.size + 1; omega) _
end Go.Proofs.Ytgjebjoaemeeoaa.kit
