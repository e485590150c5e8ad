/-
  Chapter 4: impl's copyMachine.
-/
import Derived.Test.YtpdpejlcilnafaaGreatDoorS4Copy
import Derived.Deep.DeepCutAuto
namespace Go.Proofs.YtpdpejlcilnafaaGreatDoor.kit
open Go.ChangeShapes Go.WideShapes Go.ChangeAt Go.RowKit
set_option linter.unusedVariables false
set_option maxRecDepth 100000 in
set_option maxHeartbeats 8000000 in
theorem copyMachineS (v1 v2 : Value) (L1 : List Int) (L2 : List Sess) (w : World) (h1 : L1.length ≤ 4194304) (h2 : L2.length ≤ 4194304) (o1 : SrcI w.heap.size w v1 L1) (o2 : SrcS w.heap.size w v2 L2) :
    Calls Tryz.prog 101 #[.agg #[v1, v2]] w fun e w' => ∃ u1 u2, e = .returned (.agg #[u1, u2]) ∧ OwnI w.heap.size w' u1 L1 ∧ OwnS w.heap.size w' u2 L2 ∧ Below w.heap.size w w' := by
  have J1 := fun W (hW : Below w.heap.size w W) => Lib.hid (cloneIs v1 L1 W h1 (o1.srcLater hW))
  have J2 := fun W (hW : Below w.heap.size w W) => Lib.hid (cloneSs v2 L2 W h2 (o2.srcLater hW))
  obtain ⟨y1, q1, rfl⟩ := o1.shape
  obtain ⟨y2, q2, rfl⟩ := o2.shape
  clear o1 o2
  go_enter Tryz.func101, Tryz.ntmps101
  go_wp2_with fail
  obtain ⟨W0, hW0⟩ : ∃ W, W = (w.alloc (.cells #[.slice y1 L1.length q1, .slice y2 L2.length q2] 30)).alloc (.cells #[.slice none 0 0, .slice none 0 0] 30) := ⟨_, rfl⟩
  rw [← hW0]
  have x0 : W0.cell? ⟨w.heap.size, 0, none⟩ = some (.slice y1 L1.length q1) := by rw [hW0]; go_simp
  have x1 : W0.cell? ⟨w.heap.size, 1, none⟩ = some (.slice y2 L2.length q2) := by rw [hW0]; go_simp
  have r0 : W0.cell? ⟨w.heap.size + 1, 0, none⟩ = some (.slice none 0 0) := by rw [hW0]; go_simp
  have r1 : W0.cell? ⟨w.heap.size + 1, 1, none⟩ = some (.slice none 0 0) := by rw [hW0]; go_simp
  have fr : ∀ o, W0.frozen? ⟨w.heap.size + 1, o, none⟩ = false := fun o => by rw [hW0]; go_simp
  have hA : Below w.heap.size w W0 := by rw [hW0]; exact ((Below.refl _ _).alloc (Nat.le_refl _) _).alloc (by simp) _
  have hs0 : W0.heap.size = w.heap.size + 1 + 1 := by rw [hW0]; simp
  have lt0 : w.heap.size < W0.heap.size := by omega
  have lt1 : w.heap.size + 1 < W0.heap.size := by omega
  have HA := Lib.hid hA
  have HS0 := Lib.hid hs0
  clear hW0 hs0 hA
  have hW1 := (Below.refl W0.heap.size W0).drew
  have HA1 := Lib.hid HA.out.drew
  go_region_with (first
    | (go_at_call 124; (with_reducible refine (J1 _ HA1.out).out.mono ?_); rintro e wa ⟨u1, rfl, ho1, hb1⟩
       obtain ⟨yu1, qu1, rfl⟩ := ho1.shape
       have hB0 := hW1.trans (hb1.mono hW1.size)
       have z1 := (hB0.cell (p := ⟨w.heap.size, 1, none⟩) lt0).trans x1
       have z2 := (hB0.cell (p := ⟨w.heap.size + 1, 0, none⟩) lt1).trans r0
       have z3 := (hB0.cell (p := ⟨w.heap.size + 1, 1, none⟩) lt1).trans r1
       have HA2 := Lib.hid (HA1.out.trans (hb1.mono HA1.out.size)))
    | (go_at_call 125; (with_reducible refine (J2 _ HA2.out).out.mono ?_); rintro e wb ⟨u2, rfl, ho2, hb2⟩
       obtain ⟨yu2, qu2, rfl⟩ := ho2.shape
       have hB1 := hB0.trans (hb2.mono hB0.size)
       have s0 := (hB1.cell (p := ⟨w.heap.size + 1, 0, none⟩) lt1).trans r0
       have s1 := (hB1.cell (p := ⟨w.heap.size + 1, 1, none⟩) lt1).trans r1
       have sf : ∀ o, wb.frozen? ⟨w.heap.size + 1, o, none⟩ = false := fun o => (hB1.frozen (p := ⟨w.heap.size + 1, o, none⟩) lt1).trans (fr o)
       have ho1' := ho1.later hb2
       have HA3 := Lib.hid (HA2.out.trans (hb2.mono HA2.out.size))))
  all_goals
    clear z1 z2 z3 x0 x1 r0 r1 fr J1 J2
    go_wp2_with fail
    refine bodyPost_ret (v := .agg #[.slice yu1 L1.length qu1, .slice yu2 L2.length qu2]) (by simp [results, Tryz.results101, go_sem, s0, s1]) rfl ⟨_, _, rfl, ?_, ?_, ?_⟩
    · exact ((ho1'.setBelow (a := ⟨w.heap.size + 1, 0, none⟩) lt1 _).setBelow (a := ⟨w.heap.size + 1, 1, none⟩) lt1 _).mono (Nat.le_of_lt lt0)
    · exact ((ho2.setBelow (a := ⟨w.heap.size + 1, 0, none⟩) (Nat.lt_of_lt_of_le lt1 hB0.size) _).setBelow (a := ⟨w.heap.size + 1, 1, none⟩) (Nat.lt_of_lt_of_le lt1 hB0.size) _).mono HA2.out.size
    · exact (HA3.out.setCell (p := ⟨w.heap.size + 1, 0, none⟩) (Nat.le_succ _) _).setCell (p := ⟨w.heap.size + 1, 1, none⟩) (Nat.le_succ _) _
theorem copyMachine (b1 b2 : Nat) (v1 v2 : Value) (L1 : List Int) (L2 : List Sess) (w : World) (h1 : L1.length ≤ 4194304) (h2 : L2.length ≤ 4194304) (o1 : OwnI b1 w v1 L1) (o2 : OwnS b2 w v2 L2) :
    Calls Tryz.prog 101 #[.agg #[v1, v2]] w fun e w' => ∃ u1 u2, e = .returned (.agg #[u1, u2]) ∧ OwnI w.heap.size w' u1 L1 ∧ OwnS w.heap.size w' u2 L2 ∧ Below w.heap.size w w' := copyMachineS v1 v2 L1 L2 w h1 h2 (SrcI.own o1) (SrcS.own o2)
end Go.Proofs.YtpdpejlcilnafaaGreatDoor.kit
