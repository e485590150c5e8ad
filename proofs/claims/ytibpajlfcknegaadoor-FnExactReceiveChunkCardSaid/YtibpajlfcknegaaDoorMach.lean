/-
  The laws' helpers on machines: copied, equal, marked, held.
-/
import Derived.Test.YtibpajlfcknegaaDoorSess3
import Derived.Deep.DeepCutAuto
namespace Go.Proofs.YtibpajlfcknegaaDoor.kit
open Go.ChangeShapes Go.WideShapes Go.ChangeAt Go.RowKit
set_option linter.unusedVariables false

/-- the two rows of a machine of the call's own never share a block: their elements' types differ -/
theorem own_apart {b1 b2 : Nat} {w : World} {v1 v2 : Value} {l1 : List Int} {l2 : List Sess} (h1 : OwnI b1 w v1 l1) (h2 : OwnS b2 w v2 l2) : ∀ g, v1.ownBlock = some g → v2.ownBlock = some g → False := by
  intro g hg1 hg2
  rcases h1.2 with ⟨rfl, _⟩ | ⟨g1, c1, cur1, rfl, _, hh1, _⟩
  · cases hg1
  · rcases h2.2 with ⟨rfl, _⟩ | ⟨g2, c2, cur2, rfl, _, hh2, _⟩
    · cases hg2
    · cases hg1
      cases hg2
      rw [hh1] at hh2
      cases hh2
theorem OwnS.setBelow {base : Nat} {w : World} {v : Value} {l : List Sess} (h : OwnS base w v l) {a : Addr} (ha : a.block < base) (u : Value) : OwnS base (w.setCell a u) v l := ownsRow_setCell_below h ha u
set_option maxRecDepth 100000 in
theorem eqMachine (a1 : Option Addr) (c1 : Nat) (L1 : List Int) (a2 : Option Addr) (c2 : Nat) (L2 : List Sess) (b1 : Option Addr) (d1 : Nat) (M1 : List Int) (b2 : Option Addr) (d2 : Nat) (M2 : List Sess) (w : World)
    (h1 : L1.length ≤ 4194304) (h2 : L2.length ≤ 4194304) (k1 : M1.length ≤ 4194304) (k2 : M2.length ≤ 4194304) (ha1 : At w a1 L1) (ha2 : AtS w a2 L2) (hb1 : At w b1 M1) (hb2 : AtS w b2 M2) :
    Calls Tryd.prog 8 #[.agg #[.slice a1 L1.length c1, .slice a2 L2.length c2], .agg #[.slice b1 M1.length d1, .slice b2 M2.length d2]] w fun e w' => e = .returned (.bool (decide (L1 = M1 ∧ L2 = M2))) ∧ Below w.heap.size w w' := by
  have j1 := fun W (hW : Below w.heap.size w W) => eqIntS_any a1 b1 c1 d1 L1 M1 W h1 k1 (ha1.later hW) (hb1.later hW)
  have j2 := fun W (hW : Below w.heap.size w W) => eqSessionS a2 b2 c2 d2 L2 M2 W h2 k2 (ha2.later hW) (hb2.later hW)
  clear ha1 ha2 hb1 hb2
  have HB0 : Below w.heap.size w ((w.alloc (.cells #[.slice a1 L1.length c1, .slice a2 L2.length c2] 25)).alloc (.cells #[.slice b1 M1.length d1, .slice b2 M2.length d2] 25)) := by go_grown
  have J1 := j1 _ HB0
  clear j1
  by_cases e1 : L1 = M1
  · rw [decide_eq_true e1] at J1
    have J2 := fun q => j2 _ (below_drewN HB0 q)
    have HB := Lib.hid HB0
    clear j2 HB0
    by_cases e2 : L2 = M2
    · rw [decide_eq_true e2] at J2
      have HE := Lib.hid (show decide (L1 = M1 ∧ L2 = M2) = true from decide_eq_true ⟨e1, e2⟩)
      clear e1 e2
      go_enter Tryd.func8, Tryd.ntmps8
      go_wp2_with fail
      refine J1.mono ?_
      rintro e w1 ⟨rfl, q, rfl⟩
      go_wp2_with fail
      refine (J2 q).mono ?_
      rintro e w1 ⟨rfl, hb⟩
      go_wp2_with fail
      go_ret
      exact ⟨by rw [HE.out]; rfl, (below_drewN HB.out q).trans (hb.mono (by have := HB.out.size; simpa using this))⟩
    · rw [decide_eq_false e2] at J2
      have HE := Lib.hid (show decide (L1 = M1 ∧ L2 = M2) = false from decide_eq_false (fun h => e2 h.2))
      clear e1 e2
      go_enter Tryd.func8, Tryd.ntmps8
      go_wp2_with fail
      refine J1.mono ?_
      rintro e w1 ⟨rfl, q, rfl⟩
      go_wp2_with fail
      refine (J2 q).mono ?_
      rintro e w1 ⟨rfl, hb⟩
      go_wp2_with fail
      go_ret
      exact ⟨by rw [HE.out]; rfl, (below_drewN HB.out q).trans (hb.mono (by have := HB.out.size; simpa using this))⟩
  · rw [decide_eq_false e1] at J1
    have HE := Lib.hid (show decide (L1 = M1 ∧ L2 = M2) = false from decide_eq_false (fun h => e1 h.1))
    have HB := Lib.hid HB0
    clear e1 j2 HB0
    go_enter Tryd.func8, Tryd.ntmps8
    go_wp2_with fail
    refine J1.mono ?_
    rintro e w1 ⟨rfl, q, rfl⟩
    go_wp2_with fail
    go_ret
    exact ⟨by rw [HE.out]; rfl, below_drewN HB.out q⟩
set_option maxRecDepth 100000 in
/-- k is 1, as the laws call it -/
theorem markMachine (b1 b2 : Nat) (v1 v2 : Value) (L1 : List Int) (L2 : List Sess) (w : World) (h1 : L1.length ≤ 4194304) (h2 : L2.length ≤ 4194304) (o1 : OwnI b1 w v1 L1) (o2 : OwnS b2 w v2 L2) (k : Int) (hk : k = 1) :
    Calls Tryd.prog 9 #[.agg #[v1, v2], .int .i64 k] w fun e w' => e = .returned (.int .i64 (1 + (L1.length : Int) + 4 * (L2.length : Int))) ∧ OwnI b1 w' v1 (marks 1 L1.length) ∧ OwnS b2 w' v2 (marksS (1 + (L1.length : Int)) L2.length) ∧
      ∃ wa wb, Below w.heap.size w wa ∧ wa.grownBy wb v1.ownBlock ∧ wb.grownBy w' v2.ownBlock := by
  subst hk
  have hap := own_apart o1 o2
  have hlt1 := o1.block
  have hlt2 := o2.block
  have hB : Below w.heap.size w (w.alloc (.cells #[v1, v2] 25)) := (Below.refl _ _).alloc (Nat.le_refl _) _
  have j1 := markIntS_any b1 1 v1 L1 _ h1 (by omega) (by omega) (o1.later hB)
  have hs0 : ∀ W, (w.alloc (.cells #[v1, v2] 25)).grownBy W v1.ownBlock → W.cell? ⟨w.heap.size, 1, none⟩ = some v2 := fun W hg => by
    have h0 : (w.alloc (.cells #[v1, v2] 25)).cell? ⟨w.heap.size, 1, none⟩ = some v2 := by rw [World.cell?_alloc_at _ _ _ _ rfl]; rfl
    exact (World.cell?_of_block (a := ⟨w.heap.size, 1, none⟩) (hg.block w.heap.size (by simp) (fun e => Nat.lt_irrefl _ (hlt1 _ e.symm).2))).trans h0
  have j2 := fun W (hg : (w.alloc (.cells #[v1, v2] 25)).grownBy W v1.ownBlock) => markSessionS b2 (1 + (L1.length : Int)) v2 L2 W h2 (by omega) (by omega) ((o2.later hB).marked hg (fun g a b => hap g a b))
  obtain ⟨x1, e1, rfl, _, _, _, _⟩ := o1.form
  obtain ⟨x2, e2, rfl, _, _, _, _⟩ := o2.form
  have HO1 := Lib.hid o1
  have HO2 := Lib.hid o2
  have HB := Lib.hid hB
  have HS := Lib.hid hs0
  have J2 := Lib.hid j2
  clear o1 o2 hB hs0 j2
  go_enter Tryd.func9, Tryd.ntmps9
  go_wp2_with fail
  refine j1.mono ?_
  rintro e wb ⟨rfl, ho1, hg1⟩
  have c1 := HS.out wb hg1
  have j2 := J2.out wb hg1
  have HG1 := Lib.hid hg1
  have HP1 := Lib.hid ho1
  clear hg1 ho1
  go_wp2_with fail
  refine j2.mono ?_
  rintro e wc ⟨rfl, ho2, hg2⟩
  have HG2 := Lib.hid hg2
  have HP2 := Lib.hid ho2
  clear hg2 ho2 c1
  go_wp2_with fail
  go_ret
  refine ⟨rfl, ?_, HP2.out, _, wb, HB.out, HG1.out, HG2.out⟩
  exact HP1.out.marked HG2.out (fun g a b => hap g b a)
set_option maxRecDepth 100000 in
theorem heldMachine (b1 b2 : Nat) (v1 v2 : Value) (n1 n2 : Nat) (w : World) (h1 : n1 ≤ 4194304) (h2 : n2 ≤ 4194304) (o1 : OwnI b1 w v1 (marks 1 n1)) (o2 : OwnS b2 w v2 (marksS (1 + (n1 : Int)) n2)) (k : Int) (hk : k = 1) :
    Calls Tryd.prog 10 #[.agg #[v1, v2], .int .i64 k] w fun e w' => e = .returned (.int .i64 (1 + (n1 : Int) + 4 * (n2 : Int))) ∧ Below w.heap.size w w' := by
  subst hk
  have hB : Below w.heap.size w (w.alloc (.cells #[v1, v2] 25)) := (Below.refl _ _).alloc (Nat.le_refl _) _
  have j1 := heldIntS_any b1 1 n1 v1 _ h1 (by omega) (by omega) (o1.later hB)
  have j2 := heldSessionS b2 (1 + (n1 : Int)) n2 v2 _ h2 (by omega) (by omega) (o2.later hB)
  obtain ⟨x1, e1, rfl, _, _, _, _⟩ := o1.form
  obtain ⟨x2, e2, rfl, _, _, _, _⟩ := o2.form
  have HB := Lib.hid hB
  clear o1 o2 hB
  go_enter Tryd.func10, Tryd.ntmps10
  go_wp2_with fail
  refine j1.mono ?_
  rintro e wb ⟨rfl, rfl⟩
  go_wp2_with fail
  refine j2.mono ?_
  rintro e wb ⟨rfl, rfl⟩
  go_wp2_with fail
  go_ret
  exact ⟨rfl, HB.out⟩
theorem OwnS.shape {base : Nat} {w : World} {v : Value} {l : List Sess} (h : OwnS base w v l) : ∃ a c, v = .slice a l.length c := by obtain ⟨a, c, h1, _⟩ := h.form; exact ⟨a, c, h1⟩
theorem atS_low {w : World} {a : Option Addr} {l : List Sess} (h : AtS w a l) : ∀ x : Addr, a = some x → 0 < l.length → x.block < w.heap.size := fun x hx h0 => by
  obtain ⟨g, o, hx', hlt, _⟩ := h 0 h0
  rw [hx] at hx'; cases hx'; exact hlt
theorem eqMachineO (b1 b2 : Nat) (v1 v2 : Value) (L1 : List Int) (L2 : List Sess) (b3 b4 : Nat) (v3 v4 : Value) (M1 : List Int) (M2 : List Sess) (w : World) (h1 : L1.length ≤ 4194304) (h2 : L2.length ≤ 4194304) (o1 : OwnI b1 w v1 L1) (o2 : OwnS b2 w v2 L2)
    (k1 : M1.length ≤ 4194304) (k2 : M2.length ≤ 4194304) (o3 : OwnI b3 w v3 M1) (o4 : OwnS b4 w v4 M2) :
    Calls Tryd.prog 8 #[.agg #[v1, v2], .agg #[v3, v4]] w fun e w' => e = .returned (.bool (decide (L1 = M1 ∧ L2 = M2))) ∧ Below w.heap.size w w' := by
  obtain ⟨a1, c1, rfl, _, _, t1, _⟩ := o1.form
  obtain ⟨a2, c2, rfl, _, _, t2, _⟩ := o2.form
  obtain ⟨a3, c3, rfl, _, _, t3, _⟩ := o3.form
  obtain ⟨a4, c4, rfl, _, _, t4, _⟩ := o4.form
  exact eqMachine a1 c1 L1 a2 c2 L2 a3 c3 M1 a4 c4 M2 w h1 h2 k1 k2 t1 t2 t3 t4
end Go.Proofs.YtibpajlfcknegaaDoor.kit
