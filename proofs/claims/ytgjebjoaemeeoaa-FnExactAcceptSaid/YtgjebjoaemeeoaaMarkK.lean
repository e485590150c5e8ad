/-
  A configuration marked from any number on (a law that marks several arguments in a row).
-/
import Derived.Test.YtgjebjoaemeeoaaConf
namespace Go.Proofs.Ytgjebjoaemeeoaa.kit
open Go.ChangeShapes Go.WideShapes Go.ChangeAt Go.RowKit
set_option linter.unusedVariables false
set_option maxRecDepth 100000 in
theorem markConfigK (x y : Int) (b1 b2 : Nat) (v1 v2 : Value) (L1 : List Int) (L2 : List Int) (w : World) (h1 : L1.length ≤ 4194304) (h2 : L2.length ≤ 4194304) (o1 : OwnI b1 w v1 L1) (o2 : OwnI b2 w v2 L2) (hap : Apart v1 v2) (k : Int) (hk0 : 0 ≤ k) (hk1 : k ≤ 100000000) :
    Calls Try.prog 27 #[.agg #[.int .i64 x, .int .i64 y, v1, v2], .int .i64 k] w fun e w' => e = .returned (.int .i64 (k + (L1.length : Int) + (L2.length : Int))) ∧ OwnI b1 w' v1 (marks k L1.length) ∧ OwnI b2 w' v2 (marks (k + (L1.length : Int)) L2.length) ∧
      ∃ wa wb, Below w.heap.size w wa ∧ wa.grownBy wb v1.ownBlock ∧ wb.grownBy w' v2.ownBlock := by
  have hlt1 := o1.block
  have hlt2 := o2.block
  have hB : Below w.heap.size w (w.alloc (.cells #[.int .i64 x, .int .i64 y, v1, v2] 26)) := (Below.refl _ _).alloc (Nat.le_refl _) _
  have j1 := markIntS_any b1 k v1 L1 _ h1 hk0 (by omega) (o1.later hB)
  have hs0 : ∀ W, (w.alloc (.cells #[.int .i64 x, .int .i64 y, v1, v2] 26)).grownBy W v1.ownBlock → W.cell? ⟨w.heap.size, 3, none⟩ = some v2 := fun W hg => by
    have h0 : (w.alloc (.cells #[.int .i64 x, .int .i64 y, v1, v2] 26)).cell? ⟨w.heap.size, 3, none⟩ = some v2 := by rw [World.cell?_alloc_at _ _ _ _ rfl]; rfl
    exact (World.cell?_of_block (a := ⟨w.heap.size, 3, none⟩) (hg.block w.heap.size (by simp) (fun e => Nat.lt_irrefl _ (hlt1 _ e.symm).2))).trans h0
  have j2 := fun W (hg : (w.alloc (.cells #[.int .i64 x, .int .i64 y, v1, v2] 26)).grownBy W v1.ownBlock) => markIntS_any b2 (k + (L1.length : Int)) v2 L2 W h2 (by omega) (by omega) ((o2.later hB).marked hg (fun g a b => hap g a b))
  obtain ⟨x1, e1, rfl, _, _, _, _⟩ := o1.form
  obtain ⟨x2, e2, rfl, _, _, _, _⟩ := o2.form
  have HB := Lib.hid hB
  have HS := Lib.hid hs0
  have J2 := Lib.hid j2
  have HAP := Lib.hid hap
  clear o1 o2 hB hs0 j2 hap
  go_enter Try.func27, Try.ntmps27
  go_wp2_with fail
  refine j1.mono ?_
  rintro e wb ⟨rfl, ho1, hg1⟩
  have c1 := HS.out wb hg1
  have j2 := J2.out wb hg1
  have HG1 := Lib.hid hg1
  have HP1 := Lib.hid ho1
  clear hg1 ho1
  go_wp2_with fail
  refine j2.mono ?_
  rintro e wc ⟨rfl, ho2, hg2⟩
  have HG2 := Lib.hid hg2
  have HP2 := Lib.hid ho2
  clear hg2 ho2 c1
  go_wp2_with fail
  go_ret
  refine ⟨rfl, ?_, HP2.out, _, wb, HB.out, HG1.out, HG2.out⟩
  exact HP1.out.marked HG2.out (fun g a b => HAP.out g b a)
end Go.Proofs.Ytgjebjoaemeeoaa.kit
